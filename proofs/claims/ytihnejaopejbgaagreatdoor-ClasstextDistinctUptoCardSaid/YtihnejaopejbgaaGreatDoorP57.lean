/-
  Laws that the card uses; no conditions beside those that each states (CtSameK CtLawD).
-/
import Derived.Test.YtihnejaopejbgaaGreatDoorP35
import Derived.Test.YtihnejaopejbgaaGreatDoorP43
import Derived.Test.YtihnejaopejbgaaGreatDoorP55
set_option maxRecDepth 100000
set_option maxHeartbeats 16000000
namespace Go.Proofs.YtihnejaopejbgaaGreatDoor
namespace CtE
open Go Go.RowKit Go.Shelf Go.«Sort» NumM LexW ExW ItW LexM ExM EtM EtW ItM CtM CtW CtE
open ClM (Fld)
open ClW (At RowA Lo)
theorem sameKD (x y:Kl) (pf:Option Addr) (cf:Nat) (pk:Option Addr) (ck:Nat) (pf':Option Addr) (cf':Nat) (pk':Option Addr) (ck':Nat) (N:Nat) (w:World) (ha:KA N w pf cf pk ck x) (hb:KA N w pf' cf' pk' ck' y) (hN:N≤w.heap.size) (hz:bzK x≤2000000) :
  Calls Tryz.prog 20 #[.agg #[.string x.nm,.string x.par,.slice pf x.fs.length cf,.slice pk x.bs.length ck],.agg #[.string y.nm,.string y.par,.slice pf' y.fs.length cf',.slice pk' y.bs.length ck']] w (tBool (eqC x y) w):=by
 have EE:=Lh (kl_eq x y);obtain⟨_,_,G,e1,ra⟩:=ha.fs.rowOf;rw [List.length_map] at e1;obtain⟨_,_,G',e2,rb⟩:=hb.fs.rowOf;rw [List.length_map] at e2;obtain⟨_,_,V,e3,sl,_,sv,sp⟩:=ha.bs;obtain⟨_,_,V',e4,sl',_,sv',sp'⟩:=hb.bs;cases e1;cases e2;cases e3;cases e4;have RA:=Lh ra;have RB:=Lh rb;have l1:=ra.hl;have l1':=rb.hl;rw [List.length_map] at l1 l1';simp only [ClM.byt] at l1 l1';have IS:Hid (∀ (j:Nat) (b d:ByteArray × List It),x.bs[j]? = some b→y.bs[j]? = some d→∀ W,Below w.heap.size w W→Calls Tryz.prog 37 #[V j,V' j] W (tBool (eqC b.2 d.2) W)):=Lh fun j b d hb hd W hW =>
  sameID b.2 d.2 (V j) (V' j) N W ((sv j b hb).2.under (hW.mono hN)) ((sv' j d hd).2.under (hW.mono hN)) (by have:=hW.size;omega) (rs_bz b.2 (by have:=bzK_mem (List.mem_of_getElem? hb);omega))
 have SF:Hid (∀ (j:Nat) (b:ByteArray × List It),x.bs[j]? = some b→∃ pi ci,V j=.slice pi b.2.length ci):=Lh fun j b hb=>by
  obtain⟨pi,ci,_,e,_⟩:=(sv j b hb).2.form;exact⟨pi,ci,e⟩
 have SF':Hid (∀ (j:Nat) (b:ByteArray × List It),y.bs[j]? = some b→∃ pi ci,V' j=.slice pi b.2.length ci):=Lh fun j b hb=>by
  obtain⟨pi,ci,_,e,_⟩:=(sv' j b hb).2.form;exact⟨pi,ci,e⟩
 have SP:=Lh sp;have SP':=Lh sp';obtain⟨K,hK⟩:∃ K,x.fs.length=K:=⟨_,rfl⟩;obtain⟨L,hL⟩:∃ L,x.bs.length=L:=⟨_,rfl⟩;obtain⟨K',hK'⟩:∃ K,y.fs.length=K:=⟨_,rfl⟩;obtain⟨L',hL'⟩:∃ L,y.bs.length=L:=⟨_,rfl⟩;have HK:=Lh hK;have HL:=Lh hL;have HK':=Lh hK';have HL':=Lh hL';rw [hK] at l1 ⊢;rw [hL] at sl ⊢;rw [hK'] at l1' ⊢;rw [hL'] at sl' ⊢;have hk1:K≤140737488351232:=(by omega);have hk2:L≤140737488351232:=(by omega);have hk3:K'≤140737488351232:=(by omega);have hk4:L'≤140737488351232:=(by omega);clear hK hL hK' hL' l1 l1' sl sl' ra rb sv sv' sp sp' ha hb hz;generalize eqC x y=G0 at *
 generalize x.nm=nm at *
 generalize x.par=par at *
 generalize y.nm=nm' at *
 generalize y.par=par' at *
 have FA:=(Blk.new w [.string nm,.string par,.slice pf K cf,.slice pk L ck] 32).alloc (.cells ([.string nm',.string par',.slice pf' K' cf',.slice pk' L' ck']:List Value).toArray 32);have FB:=Blk.new (w.alloc (.cells ([.string nm,.string par,.slice pf K cf,.slice pk L ck]:List Value).toArray 32)) [.string nm',.string par',.slice pf' K' cf',.slice pk' L' ck'] 32;rw [World.size_alloc] at FB;have HX:Hid (Below w.heap.size w ((w.alloc (.cells ([.string nm,.string par,.slice pf K cf,.slice pk L ck]:List Value).toArray 32)).alloc (.cells ([.string nm',.string par',.slice pf' K' cf',.slice pk' L' ck']:List Value).toArray 32))):=Lh (((Below.refl _ _).alloc (Nat.le_refl _) _).alloc (by simp) _);have a0:=FA.c 0 _ rfl;have a1:=FA.c 1 _ rfl;have a2:=FA.c 2 _ rfl;have a3:=FA.c 3 _ rfl;have b0:=FB.c 0 _ rfl;have b1:=FB.c 1 _ rfl;have b2:=FB.c 2 _ rfl;have b3:=FB.c 3 _ rfl;have HA:=Lh FA;have HB:=Lh FB;clear FA FB;cases hnm:(nm.toList == nm'.toList)
 ·have hnm2:=neq_of hnm;rw [hnm] at EE;simp only [Bool.not_false] at hnm2
  go_enter Tryz.func20,Tryz.ntmps20
  go_wp2;go_ret;exact tBool_mk (by rw [EE.out];rfl) HX.out
 ·have hnm2:=neq_of hnm;rw [hnm] at EE;simp only [Bool.not_true] at hnm2;cases hpr:(par.toList == par'.toList)
  ·have hpr2:=neq_of hpr;rw [hpr] at EE;simp only [Bool.not_false] at hpr2
   go_enter Tryz.func20,Tryz.ntmps20
   go_wp2;go_ret;exact tBool_mk (by rw [EE.out];rfl) HX.out
  ·have hpr2:=neq_of hpr;rw [hpr] at EE;simp only [Bool.not_true] at hpr2;by_cases hkk:K=K'
   ·have HKK:=Lh (HK.out.trans (hkk.trans HK'.out.symm));subst hkk;by_cases hll:L=L'
    ·have HLL:=Lh (HL.out.trans (hll.trans HL'.out.symm));subst hll
     go_enter Tryz.func20,Tryz.ntmps20
     go_wp2;go_loopw [5] (fun i wr=>∃ j:Nat,j≤K∧i=.int .i64 j∧Hid (∀ (i:Nat) (s t:Fld),i<j→x.fs[i]? = some s→y.fs[i]? = some t→s=t)∧Hid (Below w.heap.size w wr)∧Hid (Blk wr w.heap.size [.string nm,.string par,.slice pf K cf,.slice pk L ck])∧Hid (Blk wr (w.heap.size+1) [.string nm',.string par',.slice pf' K cf',.slice pk' L ck'])) (fun i _=>K - (intOf i).toNat)
     case atStart=>exact⟨0,Nat.zero_le _,rfl,Lh (fun i _ _ h=>by omega),HX,HA,HB⟩
     case round =>
      clear HX HA HB;obtain⟨j,hj,rfl,AL,BW,FA,FB⟩:=hrel;clear a0 a1 a2 a3 b0 b1 b2 b3;by_cases hlt:j<K
      ·have e2:=FA.out.c 2 _ rfl;have g2:=FB.out.c 2 _ rfl;obtain⟨f,hf⟩:∃ f,x.fs[j]? = some f:=⟨_,List.getElem?_eq_getElem (by rw [HK.out];exact hlt)⟩;obtain⟨h,hh⟩:∃ f,y.fs[j]? = some f:=⟨_,List.getElem?_eq_getElem (by rw [HK'.out];exact hlt)⟩;have hbw:Below N w wr:=BW.out.mono hN;obtain⟨b,off,ep,hb,c0,c1,c2,c3,c4,hs⟩:=(RA.out.under hbw).fd hf;obtain⟨b',off',ep',hb',d0,d1,d2,d3,d4,hs'⟩:=(RB.out.under hbw).fd hh;rw [ep] at e2;rw [ep'] at g2;have HQ:=(fun W=>run_fd_neqD W f h);have HXJ:=Lh hf;have HYJ:=Lh hh;obtain⟨q,hq⟩:∃ q,eqC f h=q:=⟨_,rfl⟩;have HV:=Lh hq;simp only [fdv,hq] at HQ;clear hbw hf hh hq ep ep';generalize f.nm=f0 at *
       generalize f.wd=f1 at *
       generalize f.sz=f2 at *
       generalize f.md=f3 at *
       generalize f.ini=f4 at *
       generalize h.nm=h0 at *
       generalize h.wd=h1 at *
       generalize h.sz=h2 at *
       generalize h.md=h3 at *
       generalize h.ini=h4 at *
       cases q
       ·have HE:=Lh (eqC_no HXJ.out HYJ.out (fun e=>by rw [e,eqC_self] at HV;cases HV.out));simp only [Bool.not_false] at HQ;go_wp2;go_quiet (fail)
        go_wp2;go_ret;exact tBool_mk (by rw [EE.out,HE.out];rfl) (drewC BW.out)
       ·simp only [Bool.not_true] at HQ;go_wp2;go_quiet (fail)
        go_wp2;go_roundw
        case rel=>exact⟨j+1,by omega,by go_num,Lh (fun i s2 t2 hi hx hy=>by
         rcases Nat.lt_or_ge i j with h | h
         ·exact AL.out i s2 t2 h hx hy
         ·obtain rfl:i=j:=(by omega);rw [HXJ.out] at hx;rw [HYJ.out] at hy;cases hx;cases hy;exact eqC_iff.1 HV.out),Lh (drewC BW.out),Lh (FA.out.stay (drewC (Below.refl _ _))),Lh (FB.out.stay (drewC (Below.refl _ _)))⟩
        case measure=>simp [intOf];omega
      ·have AL2:=Lh (eqC_yes HKK.out (fun i s t hi=>AL.out i s t (by rw [HK.out] at hi;omega)));have EE:=Lh (EE.out.trans (by rw [AL2.out]));clear AL AL2;have e2:=FA.out.c 2 _ rfl;have g2:=FB.out.c 2 _ rfl;have e3:=FA.out.c 3 _ rfl;have g3:=FB.out.c 3 _ rfl;obtain⟨w9,rfl⟩:∃ x,x=wr:=⟨_,rfl⟩;go_wp2;clear e2 g2;go_loopw [6] (fun i wr=>∃ j:Nat,j≤L∧i=.int .i64 j∧Hid (∀ (i:Nat) (s t:ByteArray × List It),i<j→x.bs[i]? = some s→y.bs[i]? = some t→s=t)∧Hid (Below w.heap.size w wr)∧Hid (Blk wr w.heap.size [.string nm,.string par,.slice pf K cf,.slice pk L ck])∧Hid (Blk wr (w.heap.size+1) [.string nm',.string par',.slice pf' K cf',.slice pk' L ck'])) (fun i _=>L - (intOf i).toNat)
       case atStart=>exact⟨0,Nat.zero_le _,rfl,Lh (fun i _ _ h=>by omega),BW,FA,FB⟩
       case round =>
        clear e3 g3 BW FA FB;obtain⟨k,hk,rfl,AL,BX,FC,FD⟩:=hrel;have e3:=FC.out.c 3 _ rfl;have g3:=FD.out.c 3 _ rfl;by_cases hlt2:k<L
        ·obtain⟨u,hu⟩:∃ f,x.bs[k]? = some f:=⟨_,List.getElem?_eq_getElem (by rw [HL.out];exact hlt2)⟩;obtain⟨v,hv⟩:∃ f,y.bs[k]? = some f:=⟨_,List.getElem?_eq_getElem (by rw [HL'.out];exact hlt2)⟩;have hbw:Below N w wr:=BX.out.mono hN;obtain⟨b,off,ep,hb,hcel⟩:=SP.out (by rw [HL.out];omega);obtain⟨b',off',ep',hb',hcel'⟩:=SP'.out (by rw [HL'.out];omega);rw [ep] at e3;rw [ep'] at g3;have c0:=low_cells hbw _ _ hb _ (hcel k u hu).1;have c1:=low_cells hbw _ _ hb _ (hcel k u hu).2;have d0:=low_cells hbw _ _ hb' _ (hcel' k v hv).1;have d1:=low_cells hbw _ _ hb' _ (hcel' k v hv).2;obtain⟨pi,ci,ei⟩:=SF.out k u hu;obtain⟨pi',ci',ei'⟩:=SF'.out k v hv;have HC:∀ W,Below wr.heap.size wr W→Calls Tryz.prog 37 #[V k,V' k] W (tBool (eqC u.2 v.2) W):=(fun W hW=>IS.out k u v hu hv W (BX.out.then_ hW));rw [ei] at c1 HC;rw [ei'] at d1 HC;have HXJ:=Lh hu;have HYJ:=Lh hv;have BE:=Lh (bk_eq u v);have m1:=cell_regrown e3;have m2:=cell_regrown g3;have m3:=cell_regrown c0;have m4:=cell_regrown c1;have m5:=cell_regrown d0;have m6:=cell_regrown d1;clear hbw hu hv ep ep' hcel hcel' ei ei';generalize eqC u.2 v.2=q at *
         generalize u.1=s at *
         generalize v.1=t at *
         generalize u.2.length=n1 at *
         generalize v.2.length=n2 at *
         have EC:=reC (v:=.bool q) HC;clear HC;cases hst:(s.toList == t.toList)
         ·have hst2:=neq_of hst;rw [hst] at BE;simp only [Bool.not_false] at hst2;have QE:Hid (eqC u v=false):=Lh (by rw [BE.out];rfl);go_wp2;refine wp_region_quiet_below (by kernel_rfl) (by kernel_rfl) ?_;repeat (first | go_big_quiet_step ((go_at_call 37;with_reducible exact EC _ _)) | quiet_step ((go_at_call 37;with_reducible exact EC _ _)))
          refine wpQuiet_nil ?_;intro w4 hw';obtain⟨pq,hw''⟩:=hw';have HX:Hid (Below wr.heap.size wr w4):=Lh (by rw [hw''];exact below_regrown _ _ _);clear hw'' EC m1 m2 m3 m4 m5 m6 e3 g3 c0 c1 d0 d1;have HE:=Lh (eqC_no HXJ.out HYJ.out (fun e=>by rw [e,eqC_self] at QE;cases QE.out));go_wp2;go_ret;exact tBool_mk (by rw [EE.out,HE.out];rfl) (BX.out.then_ HX.out)
         ·have hst2:=neq_of hst;rw [hst] at BE;simp only [Bool.not_true] at hst2;cases q
          ·have QE:Hid (eqC u v=false):=Lh (by rw [BE.out];rfl);go_wp2;refine wp_region_quiet_below (by kernel_rfl) (by kernel_rfl) ?_;repeat (first | go_big_quiet_step ((go_at_call 37;with_reducible exact EC _ _)) | quiet_step ((go_at_call 37;with_reducible exact EC _ _)))
           refine wpQuiet_nil ?_;intro w4 hw';obtain⟨pq,hw''⟩:=hw';have HX:Hid (Below wr.heap.size wr w4):=Lh (by rw [hw''];exact below_regrown _ _ _);clear hw'' EC m1 m2 m3 m4 m5 m6 e3 g3 c0 c1 d0 d1;have HE:=Lh (eqC_no HXJ.out HYJ.out (fun e=>by rw [e,eqC_self] at QE;cases QE.out));go_wp2;go_ret;exact tBool_mk (by rw [EE.out,HE.out];rfl) (BX.out.then_ HX.out)
          ·have QE:Hid (eqC u v=true):=Lh (by rw [BE.out];rfl);go_wp2;refine wp_region_quiet_below (by kernel_rfl) (by kernel_rfl) ?_;repeat (first | go_big_quiet_step ((go_at_call 37;with_reducible exact EC _ _)) | quiet_step ((go_at_call 37;with_reducible exact EC _ _)))
           refine wpQuiet_nil ?_;intro w4 hw';obtain⟨pq,hw''⟩:=hw';have HX:Hid (Below wr.heap.size wr w4):=Lh (by rw [hw''];exact below_regrown _ _ _);clear hw'' EC m1 m2 m3 m4 m5 m6 e3 g3 c0 c1 d0 d1;go_wp2;go_roundw
           case rel=>exact⟨k+1,by omega,by go_num,Lh (fun i s2 t2 hi hx hy=>by
            rcases Nat.lt_or_ge i k with h | h
            ·exact AL.out i s2 t2 h hx hy
            ·obtain rfl:i=k:=(by omega);rw [HXJ.out] at hx;rw [HYJ.out] at hy;cases hx;cases hy;exact eqC_iff.1 QE.out),Lh (BX.out.then_ HX.out),Lh (FC.out.stay HX.out),Lh (FD.out.stay HX.out)⟩
           case measure=>simp [intOf];omega
        ·have AL2:=Lh (eqC_yes HLL.out (fun i s t hi=>AL.out i s t (by rw [HL.out] at hi;omega)));go_wp2;go_ret;exact tBool_mk (by rw [EE.out,AL2.out];rfl) BX.out
    ·have h0:((L:Int) == (L':Int))=false:=(by rw [beq_eq_false_iff_ne];omega);have h1:=neq_of h0;simp only [Bool.not_false] at h1;have HE:=Lh (eqC_len (show x.bs.length≠y.bs.length by rw [HL.out,HL'.out];exact hll));clear hll
     go_enter Tryz.func20,Tryz.ntmps20
     go_wp2;go_ret;exact tBool_mk (by rw [EE.out];rw [HE.out];simp) HX.out
   ·have h0:((K:Int) == (K':Int))=false:=(by rw [beq_eq_false_iff_ne];omega);have h1:=neq_of h0;simp only [Bool.not_false] at h1;have HE:=Lh (eqC_len (show x.fs.length≠y.fs.length by rw [HK.out,HK'.out];exact hkk));clear hkk
    go_enter Tryz.func20,Tryz.ntmps20
    go_wp2;go_ret;exact tBool_mk (by rw [EE.out];rw [HE.out];rfl) HX.out
end CtE
namespace CtL
open Go Go.RowKit Go.Shelf NumM LexW ExW ItW LexM ExM EtM EtW ItM CtM CtW CtR CtE
theorem distinct_law (w:World) (a b:Kl) (pf:Option Addr) (cf:Nat) (pk:Option Addr) (ck:Nat) (pf':Option Addr) (cf':Nat) (pk':Option Addr) (ck':Nat) (ha:KA w.heap.size w pf cf pk ck a) (hb:KA w.heap.size w pf' cf' pk' ck' b) (hz:bzK a≤2000000) (hz':bzK b≤2000000) (ht:TabE w) :
  Calls Tryz.prog 7 #[.agg #[.string a.nm,.string a.par,.slice pf a.fs.length cf,.slice pk a.bs.length ck],.agg #[.string b.nm,.string b.par,.slice pf' b.fs.length cf',.slice pk' b.bs.length ck']] w (tBool true w):=by
 have AC:Hid (∀ W,Below w.heap.size w W→Calls Tryz.prog 12 #[] W (tBool true W)):=(Lh fun W hW=>awake_any W (ht.later hW));have VA:Hid (∀ W,Below w.heap.size w W→Calls Tryz.prog 19 #[.agg #[.string a.nm,.string a.par,.slice pf a.fs.length cf,.slice pk a.bs.length ck]] W (tBool (okK a) W)):=(Lh fun W hW=>okKR_any w a _ _ _ _ ha hz W hW);have VB:Hid (∀ W,Below w.heap.size w W→Calls Tryz.prog 19 #[.agg #[.string b.nm,.string b.par,.slice pf' b.fs.length cf',.slice pk' b.bs.length ck']] W (tBool (okK b) W)):=(Lh fun W hW=>okKR_any w b _ _ _ _ hb hz' W hW);have PA:Hid (∀ W,Below w.heap.size w W→Calls Tryz.prog 15 #[.agg #[.string a.nm,.string a.par,.slice pf a.fs.length cf,.slice pk a.bs.length ck]] W (tS (klT a) W)):=(Lh fun W hW=>printP_any w a _ _ _ _ ha hz ht W hW);have PB:Hid (∀ W,Below w.heap.size w W→Calls Tryz.prog 15 #[.agg #[.string b.nm,.string b.par,.slice pf' b.fs.length cf',.slice pk' b.bs.length ck']] W (tS (klT b) W)):=(Lh fun W hW=>printP_any w b _ _ _ _ hb hz' ht W hW);have SC:Hid (∀ W,Below w.heap.size w W→Calls Tryz.prog 20 #[.agg #[.string a.nm,.string a.par,.slice pf a.fs.length cf,.slice pk a.bs.length ck],.agg #[.string b.nm,.string b.par,.slice pf' b.fs.length cf',.slice pk' b.bs.length ck']] W (tBool (eqC a b) W)):=(Lh fun W hW=>sameKD a b _ _ _ _ _ _ _ _ w.heap.size W (ha.under hW) (hb.under hW) hW.size hz);have ST:Hid (okK a=true→okK b=true→(klT a≠[]∧klT b≠[])∧((mb (klT a)).toList == (mb (klT b)).toList)=eqC a b):=Lh fun h1 h2=>by
  have e1:klT a=clsT a:=(by unfold klT;rw [if_pos h1]);have e2:klT b=clsT b:=(by unfold klT;rw [if_pos h2]);rw [e1,e2];refine⟨⟨clsT_ne a,clsT_ne b⟩,?_⟩;rw [Bool.eq_iff_iff,beq_iff_eq,eqC_iff,Lib.toList_data,Lib.toList_data];constructor
  ·intro h;exact clsT_inj (okK_vk h1).1 (okK_vk h2).1 (by simpa using h)
  ·rintro rfl;rfl
 clear ha hb hz hz' ht;unfold tS at PA PB;have E1:Hid (klT a≠[]→(mb (klT a)).toList.isEmpty=false):=(Lh fun h=>by rw [Lib.toList_data];simpa using h);have E2:Hid (klT b≠[]→(mb (klT b)).toList.isEmpty=false):=(Lh fun h=>by rw [Lib.toList_data];simpa using h);generalize mb (klT a)=SA at *
 generalize mb (klT b)=SB at *
 generalize eqC a b=q at *
 generalize klT a=TA at *
 generalize klT b=TB at *
 generalize okK a=oa at *
 generalize okK b=ob at *
 generalize a.nm=nm at *
 generalize a.par=par at *
 generalize a.fs.length=nf at *
 generalize a.bs.length=nk at *
 generalize b.nm=nm' at *
 generalize b.par=par' at *
 generalize b.fs.length=nf' at *
 generalize b.bs.length=nk' at *
 have F1:Bx (w.alloc (.cells #[.string nm,.string par,.slice pf nf cf,.slice pk nk ck] 32)) w.heap.size 32 [.string nm,.string par,.slice pf nf cf,.slice pk nk ck]:=Bx.new _ _ _;have G1:Bx ((w.alloc (.cells #[.string nm,.string par,.slice pf nf cf,.slice pk nk ck] 32)).alloc (.cells #[.string nm',.string par',.slice pf' nf' cf',.slice pk' nk' ck'] 32)) (w.alloc (.cells #[.string nm,.string par,.slice pf nf cf,.slice pk nk ck] 32)).heap.size 32 [.string nm',.string par',.slice pf' nf' cf',.slice pk' nk' ck']:=Bx.new _ _ _;have B1:=ba w (.cells #[.string nm,.string par,.slice pf nf cf,.slice pk nk ck] 32);have B2:=ba (w.alloc (.cells #[.string nm,.string par,.slice pf nf cf,.slice pk nk ck] 32)) (.cells #[.string nm',.string par',.slice pf' nf' cf',.slice pk' nk' ck'] 32);rw [World.size_alloc] at G1;have B0:=B1.then_ B2;have F2:=F1.blk.stay B2;obtain⟨W0,hW0⟩:∃ W0,(w.alloc (.cells #[.string nm,.string par,.slice pf nf cf,.slice pk nk ck] 32)).alloc (.cells #[.string nm',.string par',.slice pf' nf' cf',.slice pk' nk' ck'] 32)=W0:=⟨_,rfl⟩;rw [hW0] at F2 G1 B0;have HF:=Lh F2;have HG:=Lh G1.blk;have HB:=Lh B0;have HX:=Lh (Below.refl W0.heap.size W0);have hlt0:=F2.lt;have hlt1:=G1.blk.lt;have c0:=F2.c 0 _ rfl;have c1:=F2.c 1 _ rfl;have c2:=F2.c 2 _ rfl;have c3:=F2.c 3 _ rfl;have d0:=G1.blk.c 0 _ rfl;have d1:=G1.blk.c 1 _ rfl;have d2:=G1.blk.c 2 _ rfl;have d3:=G1.blk.c 3 _ rfl;clear F1 G1 B1 B2 B0 F2;cases oa
 ·go_enter Tryz.func7,Tryz.ntmps7
  go_wp2_with (first | (go_at_call 19;((first | (with_reducible refine (VA.out _ (HB.out.then_ HX.out)).mono ?_) | (with_reducible refine (VA.out _ (HB.out.then_ (HX.out.drew))).mono ?_));rintro e w2 ⟨rfl,hb⟩;have HX:=Lh (by first | exact HX.out.then_ hb | exact HX.out.drew.then_ hb);clear c0 c1 c2 c3 d0 d1 d2 d3;have X:=HF.out.stay HX.out;have c0:=X.c 0 _ rfl;have c1:=X.c 1 _ rfl;have c2:=X.c 2 _ rfl;have c3:=X.c 3 _ rfl;clear X;have X:=HG.out.stay HX.out;have d0:=X.c 0 _ rfl;have d1:=X.c 1 _ rfl;have d2:=X.c 2 _ rfl;have d3:=X.c 3 _ rfl;clear X hb)) | (go_at_call 12;((first | (with_reducible refine (AC.out _ (HB.out.then_ HX.out)).mono ?_) | (with_reducible refine (AC.out _ (HB.out.then_ (HX.out.drew))).mono ?_));rintro e w2 ⟨rfl,hb⟩;have HX:=Lh (by first | exact HX.out.then_ hb | exact HX.out.drew.then_ hb);clear c0 c1 c2 c3 d0 d1 d2 d3;have X:=HF.out.stay HX.out;have c0:=X.c 0 _ rfl;have c1:=X.c 1 _ rfl;have c2:=X.c 2 _ rfl;have c3:=X.c 3 _ rfl;clear X;have X:=HG.out.stay HX.out;have d0:=X.c 0 _ rfl;have d1:=X.c 1 _ rfl;have d2:=X.c 2 _ rfl;have d3:=X.c 3 _ rfl;clear X hb)))
  go_ret;exact⟨rfl,HB.out.then_ HX.out⟩
 ·cases ob
  ·go_enter Tryz.func7,Tryz.ntmps7
   go_wp2_with (first | (go_at_call 19;((first | (with_reducible refine (VA.out _ (HB.out.then_ HX.out)).mono ?_) | (with_reducible refine (VA.out _ (HB.out.then_ (HX.out.drew))).mono ?_));rintro e w2 ⟨rfl,hb⟩;have HX:=Lh (by first | exact HX.out.then_ hb | exact HX.out.drew.then_ hb);clear c0 c1 c2 c3 d0 d1 d2 d3;have X:=HF.out.stay HX.out;have c0:=X.c 0 _ rfl;have c1:=X.c 1 _ rfl;have c2:=X.c 2 _ rfl;have c3:=X.c 3 _ rfl;clear X;have X:=HG.out.stay HX.out;have d0:=X.c 0 _ rfl;have d1:=X.c 1 _ rfl;have d2:=X.c 2 _ rfl;have d3:=X.c 3 _ rfl;clear X hb)) | (go_at_call 19;((first | (with_reducible refine (VB.out _ (HB.out.then_ HX.out)).mono ?_) | (with_reducible refine (VB.out _ (HB.out.then_ (HX.out.drew))).mono ?_));rintro e w2 ⟨rfl,hb⟩;have HX:=Lh (by first | exact HX.out.then_ hb | exact HX.out.drew.then_ hb);clear c0 c1 c2 c3 d0 d1 d2 d3;have X:=HF.out.stay HX.out;have c0:=X.c 0 _ rfl;have c1:=X.c 1 _ rfl;have c2:=X.c 2 _ rfl;have c3:=X.c 3 _ rfl;clear X;have X:=HG.out.stay HX.out;have d0:=X.c 0 _ rfl;have d1:=X.c 1 _ rfl;have d2:=X.c 2 _ rfl;have d3:=X.c 3 _ rfl;clear X hb)) | (go_at_call 12;((first | (with_reducible refine (AC.out _ (HB.out.then_ HX.out)).mono ?_) | (with_reducible refine (AC.out _ (HB.out.then_ (HX.out.drew))).mono ?_));rintro e w2 ⟨rfl,hb⟩;have HX:=Lh (by first | exact HX.out.then_ hb | exact HX.out.drew.then_ hb);clear c0 c1 c2 c3 d0 d1 d2 d3;have X:=HF.out.stay HX.out;have c0:=X.c 0 _ rfl;have c1:=X.c 1 _ rfl;have c2:=X.c 2 _ rfl;have c3:=X.c 3 _ rfl;clear X;have X:=HG.out.stay HX.out;have d0:=X.c 0 _ rfl;have d1:=X.c 1 _ rfl;have d2:=X.c 2 _ rfl;have d3:=X.c 3 _ rfl;clear X hb)))
   go_ret;exact⟨rfl,HB.out.then_ HX.out⟩
  ·obtain⟨⟨hn1,hn2⟩,hst⟩:=ST.out rfl rfl;have f1:=E1.out hn1;have f2:=E2.out hn2;have g1:(SA.toList == [])=false:=(by rw [←f1];cases SA.toList<;>rfl);have g2:(SB.toList == [])=false:=(by rw [←f2];cases SB.toList<;>rfl);have m1:(SA.toList != [])=true:=neq_of g1;have m2:(SB.toList != [])=true:=neq_of g2;clear hn1 hn2;cases q
   all_goals
    go_enter Tryz.func7,Tryz.ntmps7
    go_wp2_with (first | (go_at_call 19;((first | (with_reducible refine (VA.out _ (HB.out.then_ HX.out)).mono ?_) | (with_reducible refine (VA.out _ (HB.out.then_ (HX.out.drew))).mono ?_));rintro e w2 ⟨rfl,hb⟩;have HX:=Lh (by first | exact HX.out.then_ hb | exact HX.out.drew.then_ hb);clear c0 c1 c2 c3 d0 d1 d2 d3;have X:=HF.out.stay HX.out;have c0:=X.c 0 _ rfl;have c1:=X.c 1 _ rfl;have c2:=X.c 2 _ rfl;have c3:=X.c 3 _ rfl;clear X;have X:=HG.out.stay HX.out;have d0:=X.c 0 _ rfl;have d1:=X.c 1 _ rfl;have d2:=X.c 2 _ rfl;have d3:=X.c 3 _ rfl;clear X hb)) | (go_at_call 19;((first | (with_reducible refine (VB.out _ (HB.out.then_ HX.out)).mono ?_) | (with_reducible refine (VB.out _ (HB.out.then_ (HX.out.drew))).mono ?_));rintro e w2 ⟨rfl,hb⟩;have HX:=Lh (by first | exact HX.out.then_ hb | exact HX.out.drew.then_ hb);clear c0 c1 c2 c3 d0 d1 d2 d3;have X:=HF.out.stay HX.out;have c0:=X.c 0 _ rfl;have c1:=X.c 1 _ rfl;have c2:=X.c 2 _ rfl;have c3:=X.c 3 _ rfl;clear X;have X:=HG.out.stay HX.out;have d0:=X.c 0 _ rfl;have d1:=X.c 1 _ rfl;have d2:=X.c 2 _ rfl;have d3:=X.c 3 _ rfl;clear X hb)))
    go_region_law (go_simp;first | (go_at_call 15;((first | (with_reducible refine (PA.out _ (HB.out.then_ HX.out)).mono ?_) | (with_reducible refine (PA.out _ (HB.out.then_ (HX.out.drew))).mono ?_));rintro e w2 ⟨rfl,hb⟩;have HX:=Lh (by first | exact HX.out.then_ hb | exact HX.out.drew.then_ hb);clear c0 c1 c2 c3 d0 d1 d2 d3;have X:=HF.out.stay HX.out;have c0:=X.c 0 _ rfl;have c1:=X.c 1 _ rfl;have c2:=X.c 2 _ rfl;have c3:=X.c 3 _ rfl;clear X;have X:=HG.out.stay HX.out;have d0:=X.c 0 _ rfl;have d1:=X.c 1 _ rfl;have d2:=X.c 2 _ rfl;have d3:=X.c 3 _ rfl;clear X hb)) | (go_at_call 15;((first | (with_reducible refine (PB.out _ (HB.out.then_ HX.out)).mono ?_) | (with_reducible refine (PB.out _ (HB.out.then_ (HX.out.drew))).mono ?_));rintro e w2 ⟨rfl,hb⟩;have HX:=Lh (by first | exact HX.out.then_ hb | exact HX.out.drew.then_ hb);clear c0 c1 c2 c3 d0 d1 d2 d3;have X:=HF.out.stay HX.out;have c0:=X.c 0 _ rfl;have c1:=X.c 1 _ rfl;have c2:=X.c 2 _ rfl;have c3:=X.c 3 _ rfl;clear X;have X:=HG.out.stay HX.out;have d0:=X.c 0 _ rfl;have d1:=X.c 1 _ rfl;have d2:=X.c 2 _ rfl;have d3:=X.c 3 _ rfl;clear X hb)))
    all_goals
     go_wp2_with (first | (go_at_call 20;((first | (with_reducible refine (SC.out _ (HB.out.then_ HX.out)).mono ?_) | (with_reducible refine (SC.out _ (HB.out.then_ (HX.out.drew))).mono ?_));rintro e w2 ⟨rfl,hb⟩;have HX:=Lh (by first | exact HX.out.then_ hb | exact HX.out.drew.then_ hb);clear c0 c1 c2 c3 d0 d1 d2 d3;have X:=HF.out.stay HX.out;have c0:=X.c 0 _ rfl;have c1:=X.c 1 _ rfl;have c2:=X.c 2 _ rfl;have c3:=X.c 3 _ rfl;clear X;have X:=HG.out.stay HX.out;have d0:=X.c 0 _ rfl;have d1:=X.c 1 _ rfl;have d2:=X.c 2 _ rfl;have d3:=X.c 3 _ rfl;clear X hb)) | (go_at_call 12;((first | (with_reducible refine (AC.out _ (HB.out.then_ HX.out)).mono ?_) | (with_reducible refine (AC.out _ (HB.out.then_ (HX.out.drew))).mono ?_));rintro e w2 ⟨rfl,hb⟩;have HX:=Lh (by first | exact HX.out.then_ hb | exact HX.out.drew.then_ hb);clear c0 c1 c2 c3 d0 d1 d2 d3;have X:=HF.out.stay HX.out;have c0:=X.c 0 _ rfl;have c1:=X.c 1 _ rfl;have c2:=X.c 2 _ rfl;have c3:=X.c 3 _ rfl;clear X;have X:=HG.out.stay HX.out;have d0:=X.c 0 _ rfl;have d1:=X.c 1 _ rfl;have d2:=X.c 2 _ rfl;have d3:=X.c 3 _ rfl;clear X hb)))
     go_ret;exact⟨rfl,HB.out.then_ HX.out⟩
end CtL
end Go.Proofs.YtihnejaopejbgaaGreatDoor
