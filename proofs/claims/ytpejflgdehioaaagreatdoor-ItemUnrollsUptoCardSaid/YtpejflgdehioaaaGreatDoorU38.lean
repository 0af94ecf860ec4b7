/-
  Laws that the card uses; no conditions beside those that each states (ItValid ItSmall ItAwM ItCheck ItScT ItLaid ItOpen).
-/
import Derived.Test.YtpejflgdehioaaaGreatDoorU26
import Derived.Test.YtpejflgdehioaaaGreatDoorU31
import Derived.Test.YtpejflgdehioaaaGreatDoorU33
import Derived.Test.YtpejflgdehioaaaGreatDoorU35
set_option maxRecDepth 100000
set_option maxHeartbeats 16000000
namespace Go.Proofs.YtpejflgdehioaaaGreatDoor
namespace ItW
open Go Go.RowKit Go.Shelf LexW LexM ExM ExW ItM
open ClM (firstE firstE_zero)
attribute [local go_sem] Oper.semAt_some
theorem below_in {n₀:Nat} {A B C:World} (h:Below n₀ A B) (k:Below n₀ A C):∀ b o,b<n₀→∀ v,B.cell? ⟨b,o,none⟩=some v→C.cell? ⟨b,o,none⟩=some v:=fun b o hlt _ hv =>
 (k.cell (p:=⟨b,o,none⟩) hlt).trans ((h.cell (p:=⟨b,o,none⟩) hlt).symm.trans hv)
theorem first_of {L:List Pl} {q M:List Pl} {g:Pl→Int} (h:q <+: L) (hL:L=M) (hne:firstE (q.map g)≠0):firstE (M.map g)=firstE (q.map g):=by
 subst hL;obtain⟨r,rfl⟩:=h;rw [List.map_append,firstE_append,if_neg hne]
theorem itemValid_any (l0:List It) (v:Value) (w:World) (hx:ItsA w.heap.size w v l0) (hsz:iszs l0≤10000) (hrs:RsL l0) (ht:Tab w) :
  Calls Tryz.prog 17 #[v] w (tInt (validI l0) w):=by
 obtain⟨p,cap,V,rfl,hri⟩:=hx.form;have hK0:l0.length≤140737488351232:=(by have:=hri.hl;omega);have HX:=Lh hx;have HT:=Lh ht;have HRS:Hid (∀ q∈wks 0 [] l0,Nd1 q.x):=Lh (rs_wks l0 0 [] hrs);have SC:Hid (∀ n W,Below w.heap.size w W→CallsIn Fence.wide n Tryz.prog 12 #[.slice p l0.length cap] W fun x w'=>x=.returned (.int .i64 (iszs l0))∧Below W.heap.size W w'):=(Lh fun n W hW=>callsIn_wide.2 (itemSize_any l0 _ W ((HX.out.under hW).wide hW.size) hsz));clear hx ht hrs hri;generalize l0.length=K at *
 refine (callsIn_wide (n:=9)).1 ?_;refine callsIn_of_wp_marks Tryz.func17 rfl trivial ?_ rfl;simp only [Tryz.ntmps17,List.size_toArray,List.length_cons,List.length_nil,Nat.reduceAdd,Nat.reduceSub,Array.replicate_succ,Array.replicate_zero,List.push_toArray,List.append_toArray,List.nil_append,List.cons_append];have hbR:Below w.heap.size w (w.alloc (.cells #[.int .i64 0] 29)):=(Below.refl _ _).alloc (Nat.le_refl _) _;have HBR:=Lh hbR;have HR0:=Lh (Boxed.new w 29 (.int .i64 0));clear hbR;obtain⟨Z,hZ⟩:∃ Z,iszs l0=Z:=⟨_,rfl⟩;have HV:Hid (validI l0=if 64<Z then 2 else firstV l0):=Lh (by unfold validI;rw [hZ]);have HZ:=Lh hZ;rw [hZ] at SC hsz;clear hZ;by_cases h64:64<Z
 ·have q:decide ((64:Int)<Z)=true:=decide_eq_true (by omega);have E:Hid (2=validI l0):=Lh (by rw [HV.out,if_pos h64])
  gi_wp2_with (refine⟨trivial,?_⟩;gi_at_call 12;refine (SC.out _ _ HBR.out).mono ?_;rintro e w1 ⟨rfl,hb⟩;have bR:=bxStay HR0.out hb;have cR:=bR.cell;have fR:=bR.frozen;have HB1:=Lh (HBR.out.then_ hb);clear hb)
  refine⟨.int .i64 2,?_,ExW.tInt_mk E.out (HB1.out.setCell (p:=⟨w.heap.size,0,none⟩) (by simp) _)⟩;have hc5:=World.cell?_setCell_same' w1 ⟨w.heap.size,0,none⟩ (.int .i64 2) (by rw [cR];rfl);simp [results,Tryz.results17,go_sem,hc5]
 ·have q:decide ((64:Int)<Z)=false:=decide_eq_false (by omega);have HV2:Hid (validI l0=firstV l0):=Lh (by rw [HV.out,if_neg h64])
  gi_wp2_with (first
   | (refine⟨trivial,?_⟩;gi_at_call 12;refine (SC.out _ _ HBR.out).mono ?_;rintro e w1 ⟨rfl,hb⟩;have bR:=bxStay HR0.out hb;have HB1:=Lh (HBR.out.then_ hb);have HR1:=Lh bR;clear hb bR)
   | (refine⟨trivial,?_⟩;gi_at_call 36;refine (constraints_in Fence.wide _ trivial rfl _ _ _ _).mono ?_;rintro e w' ⟨rfl,rfl⟩))
  have hs1:=HB1.out.size;have hR1l:=HR1.out.lt;have bR:=HR1.out.alloc (.cells #[.slice p K cap] 22);have bL:=Boxed.new w1 22 (.slice p K cap);have hB0:Below w.heap.size w (w1.alloc (.cells #[.slice p K cap] 22)):=HB1.out.alloc (by omega) _;have hz:(w1.alloc (.cells #[.slice p K cap] 22)).heap.size=w1.heap.size+1:=(by simp);obtain⟨W0,hW0⟩:∃ W0,w1.alloc (.cells #[.slice p K cap] 22)=W0:=⟨_,rfl⟩;rw [hW0] at bR bL hB0 hz ⊢;clear hW0
  refine range_tells rfl (by decide) (gf:=65) (lb:=#[.pointer (some ⟨w1.heap.size,0,none⟩)]) rfl trivial (enters_of Tryz.func65 (by kernel_rfl) rfl)
   (constraints_tells Fence.wide rfl _ trivial trivial rfl w.heap.size (w.heap.size+1) w1.heap.size (by omega) l0 (by rw [HZ.out];exact hsz) (fun q=>Nd1 q.x) HRS.out _ W0 (by omega) bL (HX.out.under hB0)) keepC_t (keepC_b (by omega)) (fun _=>rfl)
   (fun bef W=>(Boxed W w.heap.size 29 (.int .i64 0)∧firstE ((bef.map Pn.pl).map fltP)=0)∧Below w.heap.size w W)
   (fun c bef W=>(Boxed W w.heap.size 29 (.int .i64 (firstE ((bef.map Pn.pl).map fltP)))∧(c=.ret∧firstE ((bef.map Pn.pl).map fltP)≠0))∧Below w.heap.size w W)
   (OwnFrom.and (OwnFrom.and (Own.from (boxed_own _ _ _) _) (ownFrom_pure _ _)) (ownFrom_below (Nat.le_refl _) (by omega)))
   (fun c=>OwnFrom.and (OwnFrom.and (Own.from (boxed_own _ _ _) _) (ownFrom_pure _ _)) (ownFrom_below (Nat.le_refl _) (by omega)))
   ⟨⟨bR,rfl⟩,hB0⟩ ?round ?done ?stop
  case round =>
   rintro l bef x W hl ⟨⟨bR1,hf1⟩,hB1⟩ htell hlt;have hnd:=htell.2;have HMP:Hid (firstE (((bef++[x]).map Pn.pl).map fltP)=fltP x.pl):=Lh (by rw [List.map_append,List.map_append,List.map_cons,List.map_nil,List.map_cons,List.map_nil,firstE_snoc,if_pos hf1]);have hWs:=hB1.size;have hl1:=bR1.lt;have HBR1:=Lh bR1;have HF1:=Lh hf1;have HBW:=Lh hB1;clear htell bR1 hf1 hB1;have hpl:x.pl=⟨x.d,x.B,x.x⟩:=rfl;rw [hpl] at HMP hnd;obtain⟨d,B,it,a4,a7,a8,a9,a10,a11,mb,hd,hv⟩:=x;simp only at HMP hnd hpl ⊢;obtain⟨p4,k4,p7,k7,p8,k8,p9,k9,p10,k10,p11,k11,rfl,rfl,rfl,rfl,rfl,rfl⟩:=hv.slices;rw [zip2];have b1:Below W.heap.size W ((W.alloc (.cells #[.int .i64 d,.map (some mb)] 70)).alloc (.cells (ics it.kd it.e.op it.e.n it.e.nm (.slice p4 it.e.args.length k4) it.nm it.ix (.slice p7 it.ws.length k7) (.slice p8 it.it.length k8) (.slice p9 it.el.length k9) (.slice p10 it.bf.length k10) (.slice p11 it.af.length k11)).toArray 55)):=((Below.refl _ _).alloc (Nat.le_refl _) _).alloc (by simp) _;have FP:=(Blk.new W [.int .i64 d,.map (some mb)] 70).alloc (.cells (ics it.kd it.e.op it.e.n it.e.nm (.slice p4 it.e.args.length k4) it.nm it.ix (.slice p7 it.ws.length k7) (.slice p8 it.it.length k8) (.slice p9 it.el.length k9) (.slice p10 it.bf.length k10) (.slice p11 it.af.length k11)).toArray 55);have FI:=Blk.new (W.alloc (.cells #[.int .i64 d,.map (some mb)] 70)) (ics it.kd it.e.op it.e.n it.e.nm (.slice p4 it.e.args.length k4) it.nm it.ix (.slice p7 it.ws.length k7) (.slice p8 it.it.length k8) (.slice p9 it.el.length k9) (.slice p10 it.bf.length k10) (.slice p11 it.af.length k11)) 55;rw [World.size_alloc] at FI;have B1:=Lh b1;have FP1:=Lh FP;have FI1:=Lh FI;clear b1 FP FI
   gi_wp2
   refine⟨keepsFrom_below B1.out,KeepC.of_below B1.out,⟨⟨bxStay HBR1.out B1.out,HF1.out⟩,HBW.out.trans (B1.out.mono hWs)⟩,?_⟩;rintro Wb hnear ⟨⟨bR2,_⟩,hB2⟩;have d0:=hnear.cell (FP1.out.c 0 _ rfl);have e0:=hnear.cell (FI1.out.c 0 _ rfl);have e1:=hnear.cell (FI1.out.c 1 _ rfl);have e2:=hnear.cell (FI1.out.c 2 _ rfl);have e3:=hnear.cell (FI1.out.c 3 _ rfl);have e4:=hnear.cell (FI1.out.c 4 _ rfl);have e5:=hnear.cell (FI1.out.c 5 _ rfl);have e6:=hnear.cell (FI1.out.c 6 _ rfl);have e7:=hnear.cell (FI1.out.c 7 _ rfl);have e8:=hnear.cell (FI1.out.c 8 _ rfl);have e9:=hnear.cell (FI1.out.c 9 _ rfl);have e10:=hnear.cell (FI1.out.c 10 _ rfl);have e11:=hnear.cell (FI1.out.c 11 _ rfl);have hsb:=hB2.size;have hlR:=bR2.lt;have FC:Hid (∀ n,CallsIn (Fence.wide.inRound l) n Tryz.prog 40 #[iv it.kd it.e.op it.e.n it.e.nm (.slice p4 it.e.args.length k4) it.nm it.ix (.slice p7 it.ws.length k7) (.slice p8 it.it.length k8) (.slice p9 it.el.length k9) (.slice p10 it.bf.length k10) (.slice p11 it.af.length k11),.int .i64 d] Wb (tInt (fltI d it) Wb)) :=
    Lh fun n=>CallsIn.inRound l (callsIn_wide.2 (fault_any d hd it _ _ _ _ _ _ w.heap.size Wb (hv.kept (below_in hB0 hB2) (Nat.le_refl _)) hsb hnd.1 (HT.out.later hB2)))
   have BR2:=Lh bR2;have HB2:=Lh hB2;clear bR2 hB2 hnear;by_cases hf:fltI d it=0
   ·rw [hf] at FC;have HE:Hid (firstE (((bef++[(⟨d,B,it,.slice p4 it.e.args.length k4,.slice p7 it.ws.length k7,.slice p8 it.it.length k8,.slice p9 it.el.length k9,.slice p10 it.bf.length k10,.slice p11 it.af.length k11,mb,hd,hv⟩:Pn w.heap.size W0)]).map Pn.pl).map fltP)=0):=Lh (by rw [HMP.out];exact hf);clear hf
    gi_wp2_with (refine⟨trivial,?_⟩;gi_at_call 40;refine (FC.out _).mono ?_;rintro e w2 ⟨rfl,hb⟩;have bR3:=bxStay BR2.out hb;have HBc:=Lh hb;have BR3:=Lh bR3;clear hb bR3)
    exact⟨keepsFrom_below HBc.out,KeepC.of_below HBc.out,⟨⟨BR3.out,HE.out⟩,HB2.out.trans (HBc.out.mono hsb)⟩⟩
   ·have HE:Hid (firstE (((bef++[(⟨d,B,it,.slice p4 it.e.args.length k4,.slice p7 it.ws.length k7,.slice p8 it.it.length k8,.slice p9 it.el.length k9,.slice p10 it.bf.length k10,.slice p11 it.af.length k11,mb,hd,hv⟩:Pn w.heap.size W0)]).map Pn.pl).map fltP)=fltI d it):=Lh HMP.out;obtain⟨E,hE0⟩:∃ E,fltI d it=E:=⟨_,rfl⟩;rw [hE0] at FC HE hf;clear hE0;have hE:(E != 0)=true:=(by simpa using hf);have HNE:=Lh hf;clear hf
    gi_wp2_with (refine⟨trivial,?_⟩;gi_at_call 40;refine (FC.out _).mono ?_;rintro e w2 ⟨rfl,hb⟩;have bR3:=bxStay BR2.out hb;have cR:=bR3.cell;have fR:=bR3.frozen;have HBc:=Lh hb;have BR3:=Lh bR3;clear hb bR3)
    refine⟨(keepsFrom_below HBc.out).trans ((KeepsOthers.setCell _ _ _).from _),(KeepC.of_below HBc.out).set (Nat.le_refl _) (by omega) _,⟨?_,rfl,by rw [HE.out];exact HNE.out⟩,(HB2.out.trans (HBc.out.mono hsb)).setCell (p:=⟨w.heap.size,0,none⟩) (by simp) _⟩;rw [HE.out];exact BR3.out.set _
  case done =>
   rintro D zs W hD hzs ⟨⟨bR1,hf1⟩,hB1⟩ hK;have HV3:Hid (0=validI l0):=Lh (by rw [HV2.out];unfold firstV;rw [←hzs,hf1]);have HBW:=Lh hB1;have cR:=bR1.cell;have fR:=bR1.frozen;have HKD:=Lh hK;clear bR1 hf1 hzs hB1
   gi_wp2
   have hK':=(KeepsOthers.setCell W ⟨w.heap.size,0,none⟩ (.int .i64 0)).same D _ HKD.out rfl;refine⟨by simp,.inl ⟨_,_,rfl,run_takeDeferred hK',?_⟩⟩;have hc5:=cell_kept (World.cell?_setCell_same' W ⟨w.heap.size,0,none⟩ (.int .i64 0) (by rw [cR];rfl)) (grownBy_putObj' _ D (.deferred none)) (fun r e=>by cases e;exact⟨_,hK',rfl⟩);refine⟨.int .i64 0,?_,by rw [HV3.out],(HBW.out.setCell (p:=⟨w.heap.size,0,none⟩) (by simp) _).trans (belowK_b (w:=w) (Nat.le_refl _) _ D _ _ (by omega) hK' rfl rfl)⟩;simp [results,Tryz.results17,go_sem,hc5]
  case stop =>
   rintro D c bef W hD hpre ⟨⟨bR1,rfl,hne⟩,hB1⟩ hK;have HV3:Hid (firstE ((bef.map Pn.pl).map fltP)=validI l0):=Lh (by rw [HV2.out];unfold firstV;rw [first_of hpre rfl hne]);have HBW:=Lh hB1;have cR:=bR1.cell;clear bR1 hne hpre hB1
   gi_wp2
   refine⟨by simp,.inl ⟨_,_,rfl,run_takeDeferred hK,?_⟩⟩;have hc5:=cell_kept cR (grownBy_putObj' _ D (.deferred none)) (fun r e=>by cases e;exact⟨_,hK,rfl⟩);refine⟨.int .i64 (firstE ((bef.map Pn.pl).map fltP)),?_,by rw [HV3.out],HBW.out.trans (belowK_b (w:=w) (Nat.le_refl _) W D _ _ (by omega) hK rfl rfl)⟩;simp [results,Tryz.results17,go_sem,hc5]
end ItW
namespace ItW
open Go Go.RowKit NumM LexW LexM ExM ExW ItM
open ClM (Fld)
def SmF (f:Fld):Prop:=(0≤f.sz∧f.sz≤8)∧nmB f.nm.data.toList=true
def tSml (fs:List Fld) (w:World) (e:Ending) (w':World):Prop:=∃ b,e=.returned (.bool b)∧Below w.heap.size w w'∧(b=true→fs.length≤20∧∀ f∈fs,SmF f)
theorem tSml_no {fs:List Fld} {w w':World} (h:Below w.heap.size w w'):tSml fs w (.returned (.bool false)) w':=⟨false,rfl,h,fun h=>by cases h⟩
theorem small_any (fs:List Fld) (cv:Value) (N:Nat) (w:World) (hc:ClA N w cv fs) (hN:N≤w.heap.size) :
  Calls Tryz.prog 19 #[cv] w (tSml fs w):=by
 have NC:Hid (∀ W s,s.size≤140737488351232→Calls Tryz.prog 42 #[.string s] W (tBool (nmB s.data.toList) W)):=(Lh fun W s hs=>nameR_any s W hs);obtain⟨cnm,par,vf,pb,kb,cb,rfl,p,cap,rfl,hl,hcap,hz,hp⟩:=hc;have HP:=Lh hp;have HZ:=Lh hz;obtain⟨K,hK⟩:∃ K,fs.length=K:=⟨_,rfl⟩;have HK:=Lh hK;rw [hK] at hl ⊢;have hk47:K≤140737488351232:=(by omega);have B0:=Blk.new w [.string cnm,.string par,.slice p K cap,.slice pb kb cb] 34;have hb0:=ba w (.cells #[.string cnm,.string par,.slice p K cap,.slice pb kb cb] 34);have d2:=B0.c 2 _ rfl;have HB:=Lh hb0;clear hK hl hp hcap hz B0 hb0;by_cases h20:20<K
 ·have e20:decide ((20:Int)<(K:Int))=true:=decide_eq_true (by omega)
  go_enter Tryz.func19,Tryz.ntmps19
  go_wp2;go_ret;exact tSml_no HB.out
 ·have e20:decide ((20:Int)<(K:Int))=false:=decide_eq_false (by omega);have hk20:K≤20:=(by omega);clear h20
  go_enter Tryz.func19,Tryz.ntmps19
  go_wp2;obtain⟨W0,hW0⟩:∃ W0,w.alloc (.cells #[.string cnm,.string par,.slice p K cap,.slice pb kb cb] 34)=W0:=⟨_,rfl⟩;simp only [List.toArray] at d2;rw [hW0] at HB d2 ⊢;have HD2:=Lh d2;clear hW0 e20 d2;go_loopw [3] (fun i wr=>∃ j:Nat,j≤K∧i=.int .i64 j∧Hid (∀ f∈fs.take j,SmF f)∧Hid (Below w.heap.size w wr)∧Hid (wr.cell? ⟨w.heap.size,2,none⟩=some (.slice p K cap))) (fun i _=>K - (intOf i).toNat)
  case atStart=>exact⟨0,Nat.zero_le _,rfl,Lh (fun f hf=>by simp at hf),HB,HD2⟩
  case round =>
   obtain⟨j,hj,rfl,FW,BW,CW⟩:=hrel;have d2:=CW.out;by_cases hlt:j<K
   ·obtain⟨b,off,rfl,hbN,hcell⟩:=HP.out (by rw [HK.out];omega);obtain⟨y,hyk⟩:∃ y,fs[j]? = some y:=⟨_,List.getElem?_eq_getElem (by rw [HK.out];exact hlt)⟩;obtain⟨q0,q1,q2,q3,q4⟩:=hcell j y hyk;have HCC:Hid (∀ W,Below w.heap.size w W→∀ (i:Nat) (f:Fld),fs[i]? = some f→W.cell? ⟨b,off+i*5,none⟩=some (.string f.nm)):=(Lh fun W hW i f hi=>low_cells (hW.mono hN) _ _ hbN _ (hcell i f hi).1);have c0:=low_cells (BW.out.mono hN) _ _ hbN _ q0;have c2:=low_cells (BW.out.mono hN) _ _ hbN _ q2;have hys:=HZ.out y (List.mem_of_getElem? hyk);have NC2:=Lh (fun W=>NC.out W y.nm hys);have HY:=Lh hyk;have HSF:Hid ((0≤y.sz∧y.sz≤8)→nmB y.nm.data.toList=true→∀ f∈fs.take (j+1),SmF f):=Lh fun h1 h2 f hf=>by
     obtain⟨hjl,he⟩:=List.getElem?_eq_some_iff.1 hyk;rw [List.take_succ_eq_append_getElem hjl] at hf;rcases List.mem_append.1 hf with h | h
     ·exact FW.out f h
     ·simp at h;rw [h,he];exact⟨h1,h2⟩
    clear hcell hyk q0 q1 q2 q3 q4;generalize nmB y.nm.data.toList=u at *
    generalize y.sz=z at *
    generalize hyn:y.nm=yn at *
    by_cases h1:z<0
    ·have e1:decide (z<0)=true:=decide_eq_true h1;clear h1 HSF;go_wp2;go_ret;exact tSml_no BW.out
    ·have e1:decide (z<0)=false:=decide_eq_false h1;by_cases h2:8<z
     ·have e2:decide (8<z)=true:=decide_eq_true h2;clear h1 h2 HSF;go_wp2;go_ret;exact tSml_no BW.out
     ·have e2:decide (8<z)=false:=decide_eq_false h2;cases u
      ·clear h1 h2 HSF;go_wp2_with (go_at_call 42;((with_reducible refine (NC2.out _).mono ?_);rintro e w1 ⟨rfl,hb⟩;have HB1:=Lh (BW.out.then_ hb);clear hb))
       go_ret;exact tSml_no HB1.out
      ·have HF2:=Lh (HSF.out ⟨by omega,by omega⟩ rfl);clear h1 h2 HSF;go_wp2_with (go_at_call 42;((with_reducible refine (NC2.out _).mono ?_);rintro e w1 ⟨rfl,hb⟩;have HB1:=Lh (BW.out.then_ hb);have HD1:Hid (w1.cell? ⟨w.heap.size,2,none⟩=some (.slice (some ⟨b,off,none⟩) K cap)):=Lh (by rw [hb.cell (World.block_lt_of_cell? wr _ CW.out)];exact CW.out);clear hb d2 c0 c2))
       go_loopw [4] (fun i w2=>∃ i2:Nat,i2≤j∧i=.int .i64 i2∧Hid (Below w.heap.size w w2)∧Hid (w2.cell? ⟨w.heap.size,2,none⟩=some (.slice (some ⟨b,off,none⟩) K cap))) (fun i _=>j - (intOf i).toNat)
       case atStart=>exact⟨0,Nat.zero_le _,rfl,HB1,HD1⟩
       case round =>
        rename_i w2 _ _ _;obtain⟨i2,hi2,rfl,BW2,CW2⟩:=hrel;have d2:=CW2.out;by_cases hlt2:i2<j
        ·obtain⟨g,hg⟩:∃ g,fs[i2]? = some g:=⟨_,List.getElem?_eq_getElem (by rw [HK.out];omega)⟩;have c0:=HCC.out _ BW2.out j y HY.out;have c1:=HCC.out _ BW2.out i2 g hg;rw [hyn] at c0;generalize g.nm=gn at *
         by_cases e:gn.data.toList=yn.data.toList
         ·have e1:(gn.toList == yn.toList)=true:=(by rw [Lib.toList_data,Lib.toList_data,e];simp);clear e hg;go_wp2;go_quiet (fail)
          go_wp2;go_ret;exact tSml_no (drewB BW2.out)
         ·have e1:(gn.toList == yn.toList)=false:=(by rw [Lib.toList_data,Lib.toList_data];simpa using e);clear e hg;go_wp2;go_quiet (fail)
          go_wp2;go_roundw
          case rel=>exact⟨i2+1,by omega,by go_num,Lh (drewB BW2.out),Lh (by simpa using CW2.out)⟩
          case measure=>simp [intOf];omega
        ·have hij:i2=j:=(by omega);clear hij;go_wp2;go_roundw
         case rel=>exact⟨j+1,by omega,by go_num,HF2,BW2,CW2⟩
         case measure=>simp [intOf];omega
   ·have HE:Hid (K≤20∧∀ f∈fs,SmF f):=Lh ⟨hk20,by have:=FW.out;rw [List.take_of_length_le (by rw [HK.out];omega)] at this;exact this⟩;go_wp2;go_ret;exact⟨true,rfl,BW.out,fun _=>by rw [HK.out];exact HE.out⟩
end ItW
namespace ItW
open Go Go.RowKit LexM ExM ItM
open ClM (Fld)
def fl2:List Fld:=[⟨⟨#[97]⟩,2,0,1,0⟩,⟨⟨#[100]⟩,3,2,1,0⟩]
def eIdx:Ex:=.mk 2 0 ⟨#[105]⟩ []
def eElem:Ex:=.mk 3 0 ⟨#[100]⟩ [eIdx]
def eTop:Ex:=.mk 17 0 ⟨#[]⟩ [eElem,.mk 1 3 ⟨#[]⟩ []]
def inL:List It:=[.mk 1 eTop ⟨#[]⟩ ⟨#[]⟩ [] [] [] [] []]
def awL:List It:=[.mk 5 zE ⟨#[100]⟩ ⟨#[105]⟩ [] inL [] [] []]
def eSum:Ex:=.mk 24 0 ⟨#[100]⟩ []
theorem aw_check:checkI fl2 awL=0:=by kernel_rfl
theorem aw_exp:(expS fl2 awL).2=0:=by kernel_rfl
theorem aw_exp1:(expS fl2 awL).1.map It.kd=[1,1]:=by kernel_rfl
theorem aw_sca:(scaS fl2 eSum).2=0:=by kernel_rfl
theorem aw_sca1:(scaS fl2 eSum).1.op=7:=by kernel_rfl
theorem aw_size:iszs awL=2:=by kernel_rfl
theorem aw_sz:sz eSum=1:=by kernel_rfl
theorem aw_S:∀ f∈fl2,0≤f.sz∧f.sz≤8:=by intro f hf;simp [fl2] at hf;rcases hf with rfl | rfl<;>decide
theorem aw_rs:RsL awL:=by
 unfold awL inL;simp only [rsL_cons,rsL_nil,rsI_eq,It.it,It.el,Nd1,It.e,It.ws,It.bf,It.af,List.length_nil,and_true];refine⟨⟨?_,?_⟩,⟨?_,?_⟩⟩<;>first | decide | (show sz _≤10000;exact of_decide_eq_true (by kernel_rfl))
theorem aw_sm:SmE awL:=by
 intro x hx;have h:((wks 0 [] awL).map Pl.x).map (fun y=>sz y.e)=[1,4]:=(by kernel_rfl);have h2:=List.mem_map_of_mem (f:=fun y:It=>sz y.e) hx;rw [h] at h2;simp at h2;omega
end ItW
namespace ItW
open Go Go.RowKit Go.Shelf LexW LexM ExM ExW ItM
open ClM (Fld firstE firstE_zero)
attribute [local go_sem] Oper.semAt_some
theorem fine_all {l0:List It} (h:validI l0=0):∀ q∈wks 0 [] l0,FineI q.x:=by
 unfold validI at h;split at h
 ·cases h
 ·intro q hq;exact fine_of (d:=q.d) (firstE_zero.1 h _ (List.mem_map_of_mem hq))
theorem fMap_own {α:Type} {W0:World} {fb n:Nat} {fs:List Fld} (hlt:fb<W0.heap.size):OwnFrom W0.heap.size (fun (_:α) W=>FMap W fb n fs):=fun _ _ _ _ hs hg hr=>hs.kept hg (fun e=>by have:=(hr _ e.symm).1;omega)
theorem itemCheck_any (l0:List It) (fs:List Fld) (hS:∀ f∈fs,0≤f.sz∧f.sz≤100) (hF:fs.length≤10000) (v cv:Value) (w:World) (hx:ItsA w.heap.size w v l0) (hc:ClA w.heap.size w cv fs) (hsz:iszs l0≤10000) (hrs:RsL l0) (ht:TabI w) :
  Calls Tryz.prog 20 #[v,cv] w (tInt (checkI fs l0) w):=by
 obtain⟨p,cap,V,rfl,hri⟩:=hx.form;have HX:=Lh hx;have HT:=Lh ht;have HRS:Hid (∀ q∈wks 0 [] l0,Nd1 q.x):=Lh (rs_wks l0 0 [] hrs);have VC:Hid (∀ n W,Below w.heap.size w W→CallsIn Fence.wide n Tryz.prog 17 #[.slice p l0.length cap] W (tInt (validI l0) W)):=(Lh fun n W hW=>callsIn_wide.2 (itemValid_any l0 _ W ((HX.out.under hW).wide hW.size) hsz hrs (HT.out.later hW).tab));have FC:Hid (∀ n W,Below w.heap.size w W→CallsIn Fence.wide n Tryz.prog 43 #[cv] W fun e w'=>∃ fb n,e=.returned (.map (some fb))∧W.heap.size≤fb∧FMap w' fb n fs∧Below W.heap.size W w'):=(Lh fun n W hW=>callsIn_wide.2 (fieldsOf_any fs hS hF cv W ((hc.under hW).wide hW.size)));obtain⟨cnm,par,vf,pb,kb,cb,rfl,pf,cf,rfl,_⟩:=hc;have hK0:l0.length≤140737488351232:=(by have:=hri.hl;omega);clear hx ht hrs hri;generalize l0.length=K at *
 generalize fs.length=KF at *
 have HZ:=Lh hsz;refine (callsIn_wide (n:=9)).1 ?_;refine callsIn_of_wp_marks Tryz.func20 rfl trivial ?_ rfl;simp only [Tryz.ntmps20,List.size_toArray,List.length_cons,List.length_nil,Nat.reduceAdd,Nat.reduceSub,Array.replicate_succ,Array.replicate_zero,List.push_toArray,List.append_toArray,List.nil_append,List.cons_append];obtain⟨OC,hOC⟩:∃ O:Obj,O=.cells #[.string cnm,.string par,.slice pf KF cf,.slice pb kb cb] 34:=⟨_,rfl⟩;have hbR:Below w.heap.size w ((w.alloc OC).alloc (.cells #[.int .i64 0] 29)):=((Below.refl _ _).alloc (Nat.le_refl _) _).alloc (by simp) _;have bR0:=Boxed.new (w.alloc OC) 29 (.int .i64 0);rw [World.size_alloc] at bR0;have BC0:=(Blk.new w [.string cnm,.string par,.slice pf KF cf,.slice pb kb cb] 34).alloc (.cells #[.int .i64 0] 29);subst hOC;have HBR:=Lh hbR;have HR0:=Lh bR0;have HC0:=Lh BC0;clear hbR bR0 BC0;have HV:Hid (checkI fs l0=if validI l0=0 then firstC fs l0 else validI l0):=Lh rfl;have HFI:Hid (validI l0=0→∀ q∈wks 0 [] l0,FineI q.x):=Lh fine_all;generalize validI l0=E0 at *
 by_cases h0:E0=0
 ·subst h0;have HV2:Hid (checkI fs l0=firstC fs l0):=Lh (by rw [HV.out,if_pos rfl])
  gi_wp2_with (first
   | (refine⟨trivial,?_⟩;gi_at_call 17;refine (VC.out _ _ HBR.out).mono ?_;rintro e w1 ⟨rfl,hb⟩;have bR:=bxStay HR0.out hb;have HB1:=Lh (HBR.out.then_ hb);have HR1:=Lh bR;have C1:=HC0.out.stay hb;have d0:=C1.c 0 _ rfl;have d1:=C1.c 1 _ rfl;have d2:=C1.c 2 _ rfl;have d3:=C1.c 3 _ rfl;clear hb bR C1)
   | (refine⟨trivial,?_⟩;gi_at_call 43;refine (FC.out _ _ HB1.out).mono ?_;rintro e w2 ⟨fb,fn,rfl,hfb,hfm,hb⟩;have bR:=bxStay HR1.out hb;have HB2:=Lh (HB1.out.then_ hb);have HR2:=Lh bR;have HFM:=Lh hfm;clear hb bR hfm)
   | (refine⟨trivial,?_⟩;gi_at_call 36;refine (constraints_in Fence.wide _ trivial rfl _ _ _ _).mono ?_;rintro e w' ⟨rfl,rfl⟩))
  have hs1:=HB1.out.size;have hs2:=HB2.out.size;have hR2l:=HR2.out.lt;have hfl:=HFM.out.lt;have bR:=(HR2.out.alloc (.cells #[.map (some fb)] 79)).alloc (.cells #[.slice p K cap] 22);have bF:=(Boxed.new w2 79 (.map (some fb))).alloc (.cells #[.slice p K cap] 22);have bL:=Boxed.new (w2.alloc (.cells #[.map (some fb)] 79)) 22 (.slice p K cap);have hM0:=(HFM.out.below (ba w2 (.cells #[.map (some fb)] 79))).below (ba _ (.cells #[.slice p K cap] 22));have hB0:Below w.heap.size w ((w2.alloc (.cells #[.map (some fb)] 79)).alloc (.cells #[.slice p K cap] 22)):=(HB2.out.alloc (by omega) _).alloc (by simp;omega) _;have hz:((w2.alloc (.cells #[.map (some fb)] 79)).alloc (.cells #[.slice p K cap] 22)).heap.size=w2.heap.size+2:=(by simp);simp only [World.size_alloc] at bL;obtain⟨W0,hW0⟩:∃ W0,(w2.alloc (.cells #[.map (some fb)] 79)).alloc (.cells #[.slice p K cap] 22)=W0:=⟨_,rfl⟩;rw [hW0] at bR bF bL hM0 hB0 hz ⊢;clear hW0 d0 d1 d2 d3
  refine range_tells rfl (by decide) (gf:=65) (lb:=#[.pointer (some ⟨w2.heap.size+1,0,none⟩)]) rfl trivial (enters_of Tryz.func65 (by kernel_rfl) rfl)
   (constraints_tells Fence.wide rfl _ trivial trivial rfl w.heap.size (w.heap.size+2) (w2.heap.size+1) (by omega) l0 hsz (fun q=>Nd1 q.x∧FineI q.x) (fun q hq=>⟨HRS.out q hq,HFI.out (by first | trivial | rfl) q hq⟩) _ W0 (by omega) bL (HX.out.under hB0)) keepC_t (keepC_b (by omega)) (fun _=>rfl)
   (fun bef W=>(((Boxed W (w.heap.size+1) 29 (.int .i64 0)∧Boxed W w2.heap.size 79 (.map (some fb)))∧FMap W fb fn fs)∧firstE ((bef.map Pn.pl).map (chkP fs))=0)∧Below w.heap.size w W)
   (fun c bef W=>(Boxed W (w.heap.size+1) 29 (.int .i64 (firstE ((bef.map Pn.pl).map (chkP fs))))∧(c=.ret∧firstE ((bef.map Pn.pl).map (chkP fs))≠0))∧Below w.heap.size w W)
   (OwnFrom.and (OwnFrom.and (OwnFrom.and (OwnFrom.and (Own.from (boxed_own _ _ _) _) (Own.from (boxed_own _ _ _) _)) (fMap_own (by omega))) (ownFrom_pure _ _)) (ownFrom_below (Nat.le_refl _) (by omega)))
   (fun c=>OwnFrom.and (OwnFrom.and (Own.from (boxed_own _ _ _) _) (ownFrom_pure _ _)) (ownFrom_below (Nat.le_refl _) (by omega)))
   ⟨⟨⟨⟨bR,bF⟩,hM0⟩,rfl⟩,hB0⟩ ?round ?done ?stop
  case round =>
   rintro l bef x W hl ⟨⟨⟨⟨bR1,bF1⟩,hM1⟩,hf1⟩,hB1⟩ htell hlt;have hnd:=htell.2;have HMP:Hid (firstE (((bef++[x]).map Pn.pl).map (chkP fs))=chkP fs x.pl):=Lh (by rw [List.map_append,List.map_append,List.map_cons,List.map_nil,List.map_cons,List.map_nil,firstE_snoc,if_pos hf1]);have hWs:=hB1.size;have hl1:=bR1.lt;have hml:=hM1.lt;have HBR1:=Lh bR1;have HBF1:=Lh bF1;have HM1:=Lh hM1;have HF1:=Lh hf1;have HBW:=Lh hB1;obtain⟨bn,hbm⟩:=htell.1;have HBM:=Lh hbm;clear htell bR1 hf1 hB1 bF1 hM1 hbm;have hpl:x.pl=⟨x.d,x.B,x.x⟩:=rfl;rw [hpl] at HMP hnd;obtain⟨d,B,it,a4,a7,a8,a9,a10,a11,mb,hd,hv⟩:=x;simp only at HMP hnd hpl HBM ⊢;obtain⟨p4,k4,p7,k7,p8,k8,p9,k9,p10,k10,p11,k11,rfl,rfl,rfl,rfl,rfl,rfl⟩:=hv.slices;rw [zip2];have b1:Below W.heap.size W ((W.alloc (.cells #[.int .i64 d,.map (some mb)] 70)).alloc (.cells (ics it.kd it.e.op it.e.n it.e.nm (.slice p4 it.e.args.length k4) it.nm it.ix (.slice p7 it.ws.length k7) (.slice p8 it.it.length k8) (.slice p9 it.el.length k9) (.slice p10 it.bf.length k10) (.slice p11 it.af.length k11)).toArray 55)):=((Below.refl _ _).alloc (Nat.le_refl _) _).alloc (by simp) _;have FP:=(Blk.new W [.int .i64 d,.map (some mb)] 70).alloc (.cells (ics it.kd it.e.op it.e.n it.e.nm (.slice p4 it.e.args.length k4) it.nm it.ix (.slice p7 it.ws.length k7) (.slice p8 it.it.length k8) (.slice p9 it.el.length k9) (.slice p10 it.bf.length k10) (.slice p11 it.af.length k11)).toArray 55);have FI:=Blk.new (W.alloc (.cells #[.int .i64 d,.map (some mb)] 70)) (ics it.kd it.e.op it.e.n it.e.nm (.slice p4 it.e.args.length k4) it.nm it.ix (.slice p7 it.ws.length k7) (.slice p8 it.it.length k8) (.slice p9 it.el.length k9) (.slice p10 it.bf.length k10) (.slice p11 it.af.length k11)) 55;rw [World.size_alloc] at FI;have B1:=Lh b1;have FP1:=Lh FP;have FI1:=Lh FI;clear b1 FP FI
   gi_wp2
   refine⟨keepsFrom_below B1.out,KeepC.of_below B1.out,⟨⟨⟨⟨bxStay HBR1.out B1.out,bxStay HBF1.out B1.out⟩,HM1.out.below B1.out⟩,HF1.out⟩,HBW.out.trans (B1.out.mono hWs)⟩,?_⟩;rintro Wb hnear ⟨⟨⟨⟨bR2,bF2⟩,hM2⟩,_⟩,hB2⟩;have d1:=hnear.cell (FP1.out.c 1 _ rfl);have e0:=hnear.cell (FI1.out.c 0 _ rfl);have e1:=hnear.cell (FI1.out.c 1 _ rfl);have e2:=hnear.cell (FI1.out.c 2 _ rfl);have e3:=hnear.cell (FI1.out.c 3 _ rfl);have e4:=hnear.cell (FI1.out.c 4 _ rfl);have e5:=hnear.cell (FI1.out.c 5 _ rfl);have e6:=hnear.cell (FI1.out.c 6 _ rfl);have e7:=hnear.cell (FI1.out.c 7 _ rfl);have e8:=hnear.cell (FI1.out.c 8 _ rfl);have e9:=hnear.cell (FI1.out.c 9 _ rfl);have e10:=hnear.cell (FI1.out.c 10 _ rfl);have e11:=hnear.cell (FI1.out.c 11 _ rfl);have cF:=bF2.cell;have hsb:=hB2.size;have hlR:=bR2.lt;have hbm2:BMap Wb (.map (some mb)) B:=.inr ⟨mb,bn,rfl,(HBM.out.below B1.out).near hnear⟩;have FC:Hid (∀ n,CallsIn (Fence.wide.inRound l) n Tryz.prog 44 #[.map (some fb),iv it.kd it.e.op it.e.n it.e.nm (.slice p4 it.e.args.length k4) it.nm it.ix (.slice p7 it.ws.length k7) (.slice p8 it.it.length k8) (.slice p9 it.el.length k9) (.slice p10 it.bf.length k10) (.slice p11 it.af.length k11),.map (some mb)] Wb (tInt (chkI fs B it) Wb)) :=
    Lh fun n=>CallsIn.inRound l (callsIn_wide.2 (check_any fb fs (some mb) B it _ _ _ _ _ _ w.heap.size Wb ⟨⟨fn,hM2⟩,HT.out.later hB2⟩ hbm2 (hv.kept (below_in hB0 hB2) (Nat.le_refl _)) hsb hnd.1 hnd.2))
   have BR2:=Lh bR2;have BF2:=Lh bF2;have HM2:=Lh hM2;have HB2':=Lh hB2;clear bR2 hB2 hnear bF2 hM2 hbm2;by_cases hf:chkI fs B it=0
   ·rw [hf] at FC;have HE:Hid (firstE (((bef++[(⟨d,B,it,.slice p4 it.e.args.length k4,.slice p7 it.ws.length k7,.slice p8 it.it.length k8,.slice p9 it.el.length k9,.slice p10 it.bf.length k10,.slice p11 it.af.length k11,mb,hd,hv⟩:Pn w.heap.size W0)]).map Pn.pl).map (chkP fs))=0):=Lh (by rw [HMP.out];exact hf);clear hf
    gi_wp2_with (refine⟨trivial,?_⟩;gi_at_call 44;refine (FC.out _).mono ?_;rintro e w3 ⟨rfl,hb⟩;have bR3:=bxStay BR2.out hb;have bF3:=bxStay BF2.out hb;have hM3:=HM2.out.below hb;have HBc:=Lh hb;have BR3:=Lh bR3;have BF3:=Lh bF3;have HM3:=Lh hM3;clear hb bR3 bF3 hM3)
    exact⟨keepsFrom_below HBc.out,KeepC.of_below HBc.out,⟨⟨⟨⟨BR3.out,BF3.out⟩,HM3.out⟩,HE.out⟩,HB2'.out.trans (HBc.out.mono hsb)⟩⟩
   ·have HE:Hid (firstE (((bef++[(⟨d,B,it,.slice p4 it.e.args.length k4,.slice p7 it.ws.length k7,.slice p8 it.it.length k8,.slice p9 it.el.length k9,.slice p10 it.bf.length k10,.slice p11 it.af.length k11,mb,hd,hv⟩:Pn w.heap.size W0)]).map Pn.pl).map (chkP fs))=chkI fs B it):=Lh HMP.out;obtain⟨E,hE0⟩:∃ E,chkI fs B it=E:=⟨_,rfl⟩;rw [hE0] at FC HE hf;clear hE0;have hE:(E != 0)=true:=(by simpa using hf);have HNE:=Lh hf;clear hf
    gi_wp2_with (refine⟨trivial,?_⟩;gi_at_call 44;refine (FC.out _).mono ?_;rintro e w3 ⟨rfl,hb⟩;have bR3:=bxStay BR2.out hb;have cR:=bR3.cell;have fR:=bR3.frozen;have HBc:=Lh hb;have BR3:=Lh bR3;clear hb bR3)
    refine⟨(keepsFrom_below HBc.out).trans ((KeepsOthers.setCell _ _ _).from _),(KeepC.of_below HBc.out).set (by omega) (by omega) _,⟨?_,rfl,by rw [HE.out];exact HNE.out⟩,(HB2'.out.trans (HBc.out.mono hsb)).setCell (p:=⟨w.heap.size+1,0,none⟩) (by simp) _⟩;rw [HE.out];exact BR3.out.set _
  case done =>
   rintro D zs W hD hzs ⟨⟨⟨⟨bR1,_⟩,_⟩,hf1⟩,hB1⟩ hK;have HV3:Hid (0=checkI fs l0):=Lh (by rw [HV2.out];unfold firstC;rw [←hzs,hf1]);have HBW:=Lh hB1;have cR:=bR1.cell;have fR:=bR1.frozen;have HKD:=Lh hK;clear bR1 hf1 hzs hB1
   gi_wp2
   have hK':=(KeepsOthers.setCell W ⟨w.heap.size+1,0,none⟩ (.int .i64 0)).same D _ HKD.out rfl;refine⟨by simp,.inl ⟨_,_,rfl,run_takeDeferred hK',?_⟩⟩;have hc5:=cell_kept (World.cell?_setCell_same' W ⟨w.heap.size+1,0,none⟩ (.int .i64 0) (by rw [cR];rfl)) (grownBy_putObj' _ D (.deferred none)) (fun r e=>by cases e;exact⟨_,hK',rfl⟩);refine⟨.int .i64 0,?_,by rw [HV3.out],(HBW.out.setCell (p:=⟨w.heap.size+1,0,none⟩) (by simp) _).trans (belowK_b (w:=w) (Nat.le_refl _) _ D _ _ (by omega) hK' rfl rfl)⟩;simp [results,Tryz.results20,go_sem,hc5]
  case stop =>
   rintro D c bef W hD hpre ⟨⟨bR1,rfl,hne⟩,hB1⟩ hK;have HV3:Hid (firstE ((bef.map Pn.pl).map (chkP fs))=checkI fs l0):=Lh (by rw [HV2.out];unfold firstC;rw [first_of hpre rfl hne]);have HBW:=Lh hB1;have cR:=bR1.cell;clear bR1 hne hpre hB1
   gi_wp2
   refine⟨by simp,.inl ⟨_,_,rfl,run_takeDeferred hK,?_⟩⟩;have hc5:=cell_kept cR (grownBy_putObj' _ D (.deferred none)) (fun r e=>by cases e;exact⟨_,hK,rfl⟩);refine⟨.int .i64 (firstE ((bef.map Pn.pl).map (chkP fs))),?_,by rw [HV3.out],HBW.out.trans (belowK_b (w:=w) (Nat.le_refl _) W D _ _ (by omega) hK rfl rfl)⟩;simp [results,Tryz.results20,go_sem,hc5]
 ·have HV2:Hid (E0=checkI fs l0):=Lh (by rw [HV.out,if_neg h0]);have q0:(E0 != 0)=true:=(by simpa using h0);clear h0
  gi_wp2_with (refine⟨trivial,?_⟩;gi_at_call 17;refine (VC.out _ _ HBR.out).mono ?_;rintro e w1 ⟨rfl,hb⟩;have bR:=bxStay HR0.out hb;have cR:=bR.cell;have fR:=bR.frozen;have HB1:=Lh (HBR.out.then_ hb);clear hb)
  refine⟨.int .i64 E0,?_,ExW.tInt_mk HV2.out (HB1.out.setCell (p:=⟨w.heap.size+1,0,none⟩) (by simp) _)⟩;have hc5:=World.cell?_setCell_same' w1 ⟨w.heap.size+1,0,none⟩ (.int .i64 E0) (by rw [cR];rfl);simp [results,Tryz.results20,go_sem,hc5]
end ItW
namespace ItW
open Go Go.RowKit Go.Shelf NumM LexW LexM ExM ExW ItM
open ClM (Fld firstE_zero)
theorem ge_of {fs:List Fld} {e:Ex} (h1:vld e=0) (h2:exE fs [] e=0):GE fs e:=by
 have h3:=(ok_at e 1).1 ((vld_zero e).1 h1).1;have h4:=firstE_zero.1 h2;exact⟨1,fun y hy=>⟨h3 y hy,h4 _ (List.mem_map_of_mem hy)⟩⟩
theorem itemScalar_any (fs:List Fld) (hS:∀ f∈fs,0≤f.sz∧f.sz≤8) (hF:fs.length≤10000) (e:Ex) (v cv:Value) (w:World) (hx:ExAt w.heap.size w v e) (hc:ClA w.heap.size w cv fs) (hsz:sz e≤60) (ht:TabI w) :
  Calls Tryz.prog 26 #[v,cv] w (tSc (scaS fs e) w):=by
 obtain⟨p,cap,pl,cl,rfl,hs,_⟩:=hx.form;have VC:Hid (∀ W,Below w.heap.size w W→Calls Tryz.prog 55 #[xv e.op e.n e.nm (.slice p e.args.length cap)] W (tInt (vld e) W)):=(Lh fun W hW=>valid_any e _ W ((hx.under hW).wide hW.size) (by omega) (ht.later hW).tab);have FC:Hid (∀ W,Below w.heap.size w W→Calls Tryz.prog 43 #[cv] W fun e w'=>∃ fb n,e=.returned (.map (some fb))∧W.heap.size≤fb∧FMap w' fb n fs∧Below W.heap.size W w'):=(Lh fun W hW=>fieldsOf_any fs (fun f hf=>⟨(hS f hf).1,by have:=(hS f hf).2;omega⟩) hF cv W ((hc.under hW).wide hW.size));have CC:Hid (∀ W fb,Below w.heap.size w W→FsA W fb fs→vld e=0→Calls Tryz.prog 56 #[.map (some fb),xv e.op e.n e.nm (.slice p e.args.length cap),.map none] W (tInt (exE fs [] e) W)):=(Lh fun W fb hW hf hv=>checkExpr_any fb fs (.map none) [] e _ W hf (.inl ⟨rfl,rfl⟩) ⟨none,rfl⟩ ((hx.under hW).wide hW.size) (by omega) ((ok_at e 1).1 ((vld_zero e).1 hv).1));have SC:Hid (∀ W fb,Below w.heap.size w W→FsA W fb fs→vld e=0→exE fs [] e=0→Calls Tryz.prog 57 #[.map (some fb),xv e.op e.n e.nm (.slice p e.args.length cap)] W (tSc (scR fs e) W)):=(Lh fun W fb hW hf h1 h2=>scalar_any fb fs hS e _ _ W hsz (ge_of h1 h2) hf (hx.under hW) hW.size (ht.later hW).tab);have HT:=Lh ht;have EE:Hid (scaS fs e=if vld e=0 then (if exE fs [] e=0 then scR fs e else (zE,exE fs [] e)) else (zE,vld e)):=Lh rfl;obtain⟨cnm,par,vf,pb,kb,cb,rfl,pf,cf,rfl,_⟩:=hc;generalize fs.length=KF at *
 generalize scaS fs e=R at *
 generalize scR fs e=SR at *
 generalize exE fs [] e=E1 at *
 generalize vld e=E0 at *
 generalize e.op=o at *
 generalize e.n=n at *
 generalize e.nm=s at *
 generalize e.args.length=K at *
 obtain⟨OE,hOE⟩:∃ O:Obj,O=.cells #[.int .i64 o,.int .i64 n,.string s,.slice p K cap] 43:=⟨_,rfl⟩;obtain⟨OC,hOC⟩:∃ O:Obj,O=.cells #[.string cnm,.string par,.slice pf KF cf,.slice pb kb cb] 34:=⟨_,rfl⟩;obtain⟨OZ,hOZ⟩:∃ O:Obj,O=.cells #[.int .i64 0,.int .i64 0,.string ⟨#[]⟩,.slice none 0 0] 43:=⟨_,rfl⟩;have B2:=((Blk.new w [.int .i64 o,.int .i64 n,.string s,.slice p K cap] 43).stay (ba _ OC)).stay (ba _ OZ);have B3:=(Blk.new (w.alloc (.cells #[.int .i64 o,.int .i64 n,.string s,.slice p K cap] 43)) [.string cnm,.string par,.slice pf KF cf,.slice pb kb cb] 34).stay (ba _ OZ);have B4:=Blk.new ((w.alloc (.cells #[.int .i64 o,.int .i64 n,.string s,.slice p K cap] 43)).alloc (.cells #[.string cnm,.string par,.slice pf KF cf,.slice pb kb cb] 34)) [.int .i64 0,.int .i64 0,.string ⟨#[]⟩,.slice none 0 0] 43;have hb:=((ba w OE).then_ (ba _ OC)).then_ (ba _ OZ);have hz3:(((w.alloc OE).alloc OC).alloc OZ).heap.size=w.heap.size+1+1+1:=(by rw [World.size_alloc,World.size_alloc,World.size_alloc]);subst hOE;subst hOC;subst hOZ;rw [World.size_alloc] at B3;rw [World.size_alloc,World.size_alloc] at B4;simp only [List.toArray] at B2 B3 B4;obtain⟨W0,hW0⟩:∃ W0,((w.alloc (.cells #[.int .i64 o,.int .i64 n,.string s,.slice p K cap] 43)).alloc (.cells #[.string cnm,.string par,.slice pf KF cf,.slice pb kb cb] 34)).alloc (.cells #[.int .i64 0,.int .i64 0,.string ⟨#[]⟩,.slice none 0 0] 43)=W0:=⟨_,rfl⟩;rw [hW0] at B2 B3 B4 hb hz3;have HB:=Lh hb;have H2:=Lh B2;have H3:=Lh B3;have H4:=Lh B4;have a0:=B2.c 0 _ rfl;have a1:=B2.c 1 _ rfl;have a2:=B2.c 2 _ rfl;have a3:=B2.c 3 _ rfl;clear hx hs B2 B3 B4 hb ht hS;by_cases h0:E0=0
 ·rw [if_pos h0] at EE;have HE0:=Lh h0;rw [h0] at VC;by_cases h1:E1=0
  ·rw [if_pos h1] at EE;have HE1:=Lh h1;rw [h1] at CC;clear h0 h1;obtain⟨X,err⟩:=SR
   go_enter Tryz.func26,Tryz.ntmps26
   go_wp2_with (first
    | (go_at_call 55;((with_reducible refine (VC.out _ HB.out).mono ?_);rintro e w1 ⟨rfl,hb⟩;have HB1:=Lh (HB.out.then_ hb);have G2:=H2.out.stay hb;have G3:=H3.out.stay hb;have G4:=H4.out.stay hb;(try clear a0);(try clear a1);(try clear a2);(try clear a3);(try clear c0);(try clear c1);(try clear c2);(try clear c3);(try clear e0);(try clear e1);(try clear e2);(try clear e3);(try clear z0);(try clear z1);(try clear z2);(try clear z3);have a0:=G2.c 0 _ rfl;have a1:=G2.c 1 _ rfl;have a2:=G2.c 2 _ rfl;have a3:=G2.c 3 _ rfl;have c0:=G3.c 0 _ rfl;have c1:=G3.c 1 _ rfl;have c2:=G3.c 2 _ rfl;have c3:=G3.c 3 _ rfl;have e0:=G4.c 0 _ rfl;have e1:=G4.c 1 _ rfl;have e2:=G4.c 2 _ rfl;have e3:=G4.c 3 _ rfl;have z0:=G4.f 0;have z1:=G4.f 1;have z2:=G4.f 2;have z3:=G4.f 3;have hl:=G4.lt;have HG2:=Lh G2;have HG3:=Lh G3;have HG4:=Lh G4;clear hb G2 G3 G4))
    | (go_at_call 43;((with_reducible refine (FC.out _ HB1.out).mono ?_);rintro e w2 ⟨fb,fn,rfl,hfb,hfm,hb⟩;have HFA:=Lh (FsA.mk ⟨_,hfm⟩ (HT.out.later (HB1.out.then_ hb)));clear hfm;have HB2:=Lh (HB1.out.then_ hb);have G2:=HG2.out.stay hb;have G3:=HG3.out.stay hb;have G4:=HG4.out.stay hb;clear HG2 HG3 HG4;(try clear a0);(try clear a1);(try clear a2);(try clear a3);(try clear c0);(try clear c1);(try clear c2);(try clear c3);(try clear e0);(try clear e1);(try clear e2);(try clear e3);(try clear z0);(try clear z1);(try clear z2);(try clear z3);have a0:=G2.c 0 _ rfl;have a1:=G2.c 1 _ rfl;have a2:=G2.c 2 _ rfl;have a3:=G2.c 3 _ rfl;have c0:=G3.c 0 _ rfl;have c1:=G3.c 1 _ rfl;have c2:=G3.c 2 _ rfl;have c3:=G3.c 3 _ rfl;have e0:=G4.c 0 _ rfl;have e1:=G4.c 1 _ rfl;have e2:=G4.c 2 _ rfl;have e3:=G4.c 3 _ rfl;have z0:=G4.f 0;have z1:=G4.f 1;have z2:=G4.f 2;have z3:=G4.f 3;have hl:=G4.lt;have HG2:=Lh G2;have HG3:=Lh G3;have HG4:=Lh G4;clear hb G2 G3 G4))
    | (go_at_call 56;((with_reducible refine (CC.out _ fb HB2.out HFA.out HE0.out).mono ?_);rintro e w3 ⟨rfl,hb⟩;have HFA3:=Lh (HFA.out.later hb);have HB3:=Lh (HB2.out.then_ hb);have G2:=HG2.out.stay hb;have G3:=HG3.out.stay hb;have G4:=HG4.out.stay hb;clear HG2 HG3 HG4;(try clear a0);(try clear a1);(try clear a2);(try clear a3);(try clear c0);(try clear c1);(try clear c2);(try clear c3);(try clear e0);(try clear e1);(try clear e2);(try clear e3);(try clear z0);(try clear z1);(try clear z2);(try clear z3);have a0:=G2.c 0 _ rfl;have a1:=G2.c 1 _ rfl;have a2:=G2.c 2 _ rfl;have a3:=G2.c 3 _ rfl;have c0:=G3.c 0 _ rfl;have c1:=G3.c 1 _ rfl;have c2:=G3.c 2 _ rfl;have c3:=G3.c 3 _ rfl;have e0:=G4.c 0 _ rfl;have e1:=G4.c 1 _ rfl;have e2:=G4.c 2 _ rfl;have e3:=G4.c 3 _ rfl;have z0:=G4.f 0;have z1:=G4.f 1;have z2:=G4.f 2;have z3:=G4.f 3;have hl:=G4.lt;have HG2:=Lh G2;have HG3:=Lh G3;have HG4:=Lh G4;clear hb G2 G3 G4))
    | (go_at_call 57;((with_reducible refine (SC.out _ fb HB3.out HFA3.out HE0.out HE1.out).mono ?_);rintro e w4 ⟨v4,rfl,hfr,hb⟩;obtain⟨q4,c4,rfl,_⟩:=hfr.form;have hs4:=HB3.out.size;have HFR:=Lh hfr;clear hfr;have HB4:=Lh (HB3.out.then_ hb);have G2:=HG2.out.stay hb;have G3:=HG3.out.stay hb;have G4:=HG4.out.stay hb;clear HG2 HG3 HG4;(try clear a0);(try clear a1);(try clear a2);(try clear a3);(try clear c0);(try clear c1);(try clear c2);(try clear c3);(try clear e0);(try clear e1);(try clear e2);(try clear e3);(try clear z0);(try clear z1);(try clear z2);(try clear z3);have a0:=G2.c 0 _ rfl;have a1:=G2.c 1 _ rfl;have a2:=G2.c 2 _ rfl;have a3:=G2.c 3 _ rfl;have c0:=G3.c 0 _ rfl;have c1:=G3.c 1 _ rfl;have c2:=G3.c 2 _ rfl;have c3:=G3.c 3 _ rfl;have e0:=G4.c 0 _ rfl;have e1:=G4.c 1 _ rfl;have e2:=G4.c 2 _ rfl;have e3:=G4.c 3 _ rfl;have z0:=G4.f 0;have z1:=G4.f 1;have z2:=G4.f 2;have z3:=G4.f 3;have hl:=G4.lt;have HG2:=Lh G2;have HG3:=Lh G3;have HG4:=Lh G4;clear hb G2 G3 G4)))
   have hp:=(Room4.of HG4.out).cells (.int .i64 X.op) (.int .i64 X.n) (.string X.nm) (.slice q4 X.args.length c4);have p0:=hp.c 0 _ rfl;have p1:=hp.c 1 _ rfl;have p2:=hp.c 2 _ rfl;have p3:=hp.c 3 _ rfl;refine bodyPost_ret (v:=.tuple #[xv X.op X.n X.nm (.slice q4 X.args.length c4),.int .i64 (err)]) (by simp [results,Tryz.results26,go_sem,p0,p1,p2,p3]) rfl ?_;rw [EE.out];exact⟨_,rfl,(fr_put4 (g:=w.heap.size+1+1) (Fr.low (lo':=w.heap.size+1+1+1) HFR.out (by have:=HB3.out.size;omega)) _ _ _ _).low (by omega),below_put HB4.out (by omega) _ _ _ _⟩
  ·rw [if_neg h1] at EE;have f1:(E1 == 0)=false:=(by rw [beq_eq_false_iff_ne];exact h1);have f2:(E1 != 0)=true:=(by rw [bne,f1];rfl);clear h0 h1 SC
   go_enter Tryz.func26,Tryz.ntmps26
   go_wp2_with (first
    | (go_at_call 55;((with_reducible refine (VC.out _ HB.out).mono ?_);rintro e w1 ⟨rfl,hb⟩;have HB1:=Lh (HB.out.then_ hb);have G2:=H2.out.stay hb;have G3:=H3.out.stay hb;have G4:=H4.out.stay hb;(try clear a0);(try clear a1);(try clear a2);(try clear a3);(try clear c0);(try clear c1);(try clear c2);(try clear c3);(try clear e0);(try clear e1);(try clear e2);(try clear e3);(try clear z0);(try clear z1);(try clear z2);(try clear z3);have a0:=G2.c 0 _ rfl;have a1:=G2.c 1 _ rfl;have a2:=G2.c 2 _ rfl;have a3:=G2.c 3 _ rfl;have c0:=G3.c 0 _ rfl;have c1:=G3.c 1 _ rfl;have c2:=G3.c 2 _ rfl;have c3:=G3.c 3 _ rfl;have e0:=G4.c 0 _ rfl;have e1:=G4.c 1 _ rfl;have e2:=G4.c 2 _ rfl;have e3:=G4.c 3 _ rfl;have z0:=G4.f 0;have z1:=G4.f 1;have z2:=G4.f 2;have z3:=G4.f 3;have hl:=G4.lt;have HG2:=Lh G2;have HG3:=Lh G3;have HG4:=Lh G4;clear hb G2 G3 G4))
    | (go_at_call 43;((with_reducible refine (FC.out _ HB1.out).mono ?_);rintro e w2 ⟨fb,fn,rfl,hfb,hfm,hb⟩;have HFA:=Lh (FsA.mk ⟨_,hfm⟩ (HT.out.later (HB1.out.then_ hb)));clear hfm;have HB2:=Lh (HB1.out.then_ hb);have G2:=HG2.out.stay hb;have G3:=HG3.out.stay hb;have G4:=HG4.out.stay hb;clear HG2 HG3 HG4;(try clear a0);(try clear a1);(try clear a2);(try clear a3);(try clear c0);(try clear c1);(try clear c2);(try clear c3);(try clear e0);(try clear e1);(try clear e2);(try clear e3);(try clear z0);(try clear z1);(try clear z2);(try clear z3);have a0:=G2.c 0 _ rfl;have a1:=G2.c 1 _ rfl;have a2:=G2.c 2 _ rfl;have a3:=G2.c 3 _ rfl;have c0:=G3.c 0 _ rfl;have c1:=G3.c 1 _ rfl;have c2:=G3.c 2 _ rfl;have c3:=G3.c 3 _ rfl;have e0:=G4.c 0 _ rfl;have e1:=G4.c 1 _ rfl;have e2:=G4.c 2 _ rfl;have e3:=G4.c 3 _ rfl;have z0:=G4.f 0;have z1:=G4.f 1;have z2:=G4.f 2;have z3:=G4.f 3;have hl:=G4.lt;have HG2:=Lh G2;have HG3:=Lh G3;have HG4:=Lh G4;clear hb G2 G3 G4))
    | (go_at_call 56;((with_reducible refine (CC.out _ fb HB2.out HFA.out HE0.out).mono ?_);rintro e w3 ⟨rfl,hb⟩;have HFA3:=Lh (HFA.out.later hb);have HB3:=Lh (HB2.out.then_ hb);have G2:=HG2.out.stay hb;have G3:=HG3.out.stay hb;have G4:=HG4.out.stay hb;clear HG2 HG3 HG4;(try clear a0);(try clear a1);(try clear a2);(try clear a3);(try clear c0);(try clear c1);(try clear c2);(try clear c3);(try clear e0);(try clear e1);(try clear e2);(try clear e3);(try clear z0);(try clear z1);(try clear z2);(try clear z3);have a0:=G2.c 0 _ rfl;have a1:=G2.c 1 _ rfl;have a2:=G2.c 2 _ rfl;have a3:=G2.c 3 _ rfl;have c0:=G3.c 0 _ rfl;have c1:=G3.c 1 _ rfl;have c2:=G3.c 2 _ rfl;have c3:=G3.c 3 _ rfl;have e0:=G4.c 0 _ rfl;have e1:=G4.c 1 _ rfl;have e2:=G4.c 2 _ rfl;have e3:=G4.c 3 _ rfl;have z0:=G4.f 0;have z1:=G4.f 1;have z2:=G4.f 2;have z3:=G4.f 3;have hl:=G4.lt;have HG2:=Lh G2;have HG3:=Lh G3;have HG4:=Lh G4;clear hb G2 G3 G4)))
   have hp:=(Room4.of HG4.out).cells (.int .i64 0) (.int .i64 0) (.string ⟨#[]⟩) (.slice none 0 0);have p0:=hp.c 0 _ rfl;have p1:=hp.c 1 _ rfl;have p2:=hp.c 2 _ rfl;have p3:=hp.c 3 _ rfl;refine bodyPost_ret (v:=.tuple #[xv 0 0 ⟨#[]⟩ (.slice none 0 0),.int .i64 (E1)]) (by simp [results,Tryz.results26,go_sem,p0,p1,p2,p3]) rfl ?_;rw [EE.out];exact⟨_,rfl,(fr_nil (by decide):Fr _ _ (xv 0 0 ⟨#[]⟩ (.slice none 0 0)) (.mk 0 0 ⟨#[]⟩ [])),below_put HB3.out (by omega) _ _ _ _⟩
 ·rw [if_neg h0] at EE;have f1:(E0 == 0)=false:=(by rw [beq_eq_false_iff_ne];exact h0);have f2:(E0 != 0)=true:=(by rw [bne,f1];rfl);clear h0 SC CC FC
  go_enter Tryz.func26,Tryz.ntmps26
  go_wp2_with (first
   | (go_at_call 55;((with_reducible refine (VC.out _ HB.out).mono ?_);rintro e w1 ⟨rfl,hb⟩;have HB1:=Lh (HB.out.then_ hb);have G2:=H2.out.stay hb;have G3:=H3.out.stay hb;have G4:=H4.out.stay hb;(try clear a0);(try clear a1);(try clear a2);(try clear a3);(try clear c0);(try clear c1);(try clear c2);(try clear c3);(try clear e0);(try clear e1);(try clear e2);(try clear e3);(try clear z0);(try clear z1);(try clear z2);(try clear z3);have a0:=G2.c 0 _ rfl;have a1:=G2.c 1 _ rfl;have a2:=G2.c 2 _ rfl;have a3:=G2.c 3 _ rfl;have c0:=G3.c 0 _ rfl;have c1:=G3.c 1 _ rfl;have c2:=G3.c 2 _ rfl;have c3:=G3.c 3 _ rfl;have e0:=G4.c 0 _ rfl;have e1:=G4.c 1 _ rfl;have e2:=G4.c 2 _ rfl;have e3:=G4.c 3 _ rfl;have z0:=G4.f 0;have z1:=G4.f 1;have z2:=G4.f 2;have z3:=G4.f 3;have hl:=G4.lt;have HG2:=Lh G2;have HG3:=Lh G3;have HG4:=Lh G4;clear hb G2 G3 G4)))
  have hp:=(Room4.of HG4.out).cells (.int .i64 0) (.int .i64 0) (.string ⟨#[]⟩) (.slice none 0 0);have p0:=hp.c 0 _ rfl;have p1:=hp.c 1 _ rfl;have p2:=hp.c 2 _ rfl;have p3:=hp.c 3 _ rfl;refine bodyPost_ret (v:=.tuple #[xv 0 0 ⟨#[]⟩ (.slice none 0 0),.int .i64 (E0)]) (by simp [results,Tryz.results26,go_sem,p0,p1,p2,p3]) rfl ?_;rw [EE.out];exact⟨_,rfl,(fr_nil (by decide):Fr _ _ (xv 0 0 ⟨#[]⟩ (.slice none 0 0)) (.mk 0 0 ⟨#[]⟩ [])),below_put HB1.out (by omega) _ _ _ _⟩
end ItW
namespace ItW
open Go Go.RowKit Go.ChangeShapes Go.WideShapes Go.ChangeAt NumM LexM LexW ExM ExW ItM
open ClM (Fld)
theorem tSyntax:(Tryz.prog.globals[1]?).map (·.type)=some 194:=by kernel_rfl
theorem tabI_of_laid {W:World} (h:laidMetH Tryz.prog laidAll W):TabI W:=by
 refine ⟨tab_of_laid h, ?_⟩; rw [MakeChecks.laidMetH_plain _ _ _ (by kernel_rfl)] at h; have h1 : laidMet Tryz.prog (("strconv.ErrRange", Rows.laid_strconv_ErrRange) :: ("strconv.ErrSyntax", Rows.laid_strconv_ErrSyntax) :: []) W := h.tail.tail.tail; have h2 : laidMet Tryz.prog (("strconv.ErrSyntax", Rows.laid_strconv_ErrSyntax) :: []) W := h1.tail; obtain ⟨a0, _, hv0, _⟩ := laid_sentinel h2 gSyntax tSyntax Tryz.underlying194 rowErr Tryz.underlying233 Tryz.underlying235 rfl rfl Tryz.underlying9 cellsErr cellsStr; exact ⟨_, _, hv0⟩
theorem fds_of {N:Nat} {W:World} {p:Option Addr} {cap:Nat} {fs:List Fld} (h:ClW.At (ClW.Lo N) W (.r .fields) (.slice p fs.length cap) (.row .fields (fs.map ClM.Fld.lf))):FdsA N W (.slice p fs.length cap) fs:=by
 obtain⟨p',cap',F,e,r⟩:=h.rowOf;rw [List.length_map] at e;simp only [Value.slice.injEq] at e;obtain⟨rfl,-,rfl⟩:=e;have hl:=r.hl;have hc:=r.hc;rw [List.length_map] at hl hc;have lf:∀ (i:Nat) (f:Fld),fs[i]? = some f→(fs.map ClM.Fld.lf)[i]? = some (ClM.Fld.lf f):=(fun i f hi=>by rw [List.getElem?_map,hi];rfl);refine⟨p,cap,rfl,hl,hc,fun f hf=>?_,fun h0=>?_⟩
 ·obtain⟨i,hi⟩:=List.getElem?_of_mem hf;exact (r.hx i _ 0 _ .s (lf i f hi) rfl rfl).sOf.2
 ·obtain⟨b,off,rfl,hb,hcell⟩:=r.hp (by rw [List.length_map];exact h0);refine⟨b,off,rfl,hb,fun i f hi=>?_⟩;have hil:=(List.getElem?_eq_some_iff.1 hi).1;have c:=(fun j (hj:j<5)=>hcell i j (by rw [List.length_map];exact hil) hj);have e0:=(r.hx i _ 0 _ .s (lf i f hi) rfl rfl).sOf.1;have e1:=(r.hx i _ 1 _ .n (lf i f hi) rfl rfl).nOf;have e2:=(r.hx i _ 2 _ .n (lf i f hi) rfl rfl).nOf;have e3:=(r.hx i _ 3 _ .n (lf i f hi) rfl rfl).nOf;have e4:=(r.hx i _ 4 _ .n (lf i f hi) rfl rfl).nOf;have c0:=c 0 (by decide);have c1:=c 1 (by decide);have c2:=c 2 (by decide);have c3:=c 3 (by decide);have c4:=c 4 (by decide);rw [e0] at c0;rw [e1] at c1;rw [e2] at c2;rw [e3] at c3;rw [e4] at c4;exact⟨c0,c1,c2,c3,c4⟩
theorem cla_of {N:Nat} {W:World} {pf:Option Addr} {cf:Nat} {pb:Option Addr} {cb:Nat} {c:ClM.Cl} (h:ClW.CV (ClW.Lo N) W pf cf pb cb c):ClA N W (ClW.cv c.nm c.par (.slice pf c.fs.length cf) (.slice pb c.bs.length cb)) c.fs :=
 ⟨c.nm,c.par,_,pb,c.bs.length,cb,rfl,fds_of h.fs⟩
end ItW
namespace ItW
open Go Go.RowKit Go.ChangeShapes Go.WideShapes Go.ChangeAt NumM LexM LexW ExM ExW ItM
theorem bulk_all {H:Type} {l:List (DataW H)} (h:Rows.uptoSmall H l=true):Rows.uptoBulkAll l≤1048576:=of_decide_eq_true h
theorem iszs_sum:∀ l:List It,iszs l=(l.map isz).sum
 | []=>by rw [iszs_nil];rfl
 | a::r=>by rw [iszs_cons,iszs_sum r,List.map_cons,List.sum_cons]
section
variable {H:Type} {enc:TypeId × Value→H} {W:World}
theorem sum_bulk {α:Type} (f:α→Nat):∀ (l:List α) (r:List (DataW H)),l.length=r.length→(∀ (i:Nat) (a:α) (y:DataW H),l[i]? = some a→r[i]? = some y→f a≤Rows.uptoBulk y)→(l.map f).sum≤Rows.uptoBulkAll r
 | [],[],_,_=>by simp
 | a::l,y::r,h,k=>by
  have h1:=k 0 a y rfl rfl;have h2:=sum_bulk f l r (by simpa using h) (fun i b z hb hz=>k (i+1) b z hb hz);rw [List.map_cons,List.sum_cons,Rows.uptoBulkAll];omega
theorem open_row {α:Type} (T E:TypeId) (k byt:Nat) (hT:Tryz.prog.underlying T=some (.slice E)) (hc:Tryz.prog.cellsOf E=k) (hb:Tryz.prog.bytesOf E=byt) (h0:0<k) (P:List Value→DataW H→α→Prop) (fuel:Nat)
  (hel:∀ m (cs:List Value) (x:DataW H × List MemPlace),m<fuel→cs.length=k→DataW.trod enc Tryz.prog W 0 (fun _=>true) true m E cs=some x→(∀ y∈x.2,y.block<W.heap.size)→(∀ n∈x.1.weights Tryz.prog E,n≤140737488351232)→∃ t,P cs x.1 t)
  (v:Value) (x:DataW H × List MemPlace) (h:DataW.trod enc Tryz.prog W 0 (fun _=>true) true fuel T [v]=some x) (hlt:∀ y∈x.2,y.block<W.heap.size) (hw:∀ n∈x.1.weights Tryz.prog T,n≤140737488351232) :
  ∃ (p:Option Addr) (cap:Nat) (l:List α) (C:Nat→List Value),v=.slice p l.length cap∧l.length*byt≤140737488351232∧l.length≤cap ∧
   (0<l.length→∃ b off,p=some ⟨b,off,none⟩∧b<W.heap.size∧∀ i t,l[i]? = some t→∀ j,j<k→W.cell? ⟨b,off+i*k+j,none⟩=(C i)[j]?) ∧
   (∀ i t,l[i]? = some t→∃ d,P (C i) d t) ∧
   ∀ f:α→Nat,(∀ cs d t,P cs d t→f t≤Rows.uptoBulk d)→(l.map f).sum≤Rows.uptoBulk x.1:=by
 rcases DataW.trod_slice hT h with ⟨hcs,_⟩ | ⟨a,len,cap,elems,rest,m,rfl,hcs,rfl,_,hlc,_,hl,hE,_,_⟩
 ·obtain rfl:v=.slice none 0 0:=(by simpa using hcs);exact⟨none,0,[],fun _=>[],rfl,by simp,by simp,fun h=>by simp at h,fun i t h=>by simp at h,fun f _=>by simp⟩
 ·obtain rfl:v=.slice (some a) len cap:=(by simpa using hcs);rw [hc] at hE hlt;have hbytes:len*byt≤140737488351232:=by
   have:=hw ((elems.length+rest.length)*byt) (by simp only [DataW.weights,hT,hb,List.length_map];simp);have h2:len*byt≤(elems.length+rest.length)*byt:=Nat.mul_le_mul_right _ (by omega);omega
  have each:∀ i,i<len→∃ t:List Value × α,(∀ j,j<k→W.cell? ((a.add (i*k)).add j)=t.1[j]?)∧t.1.length=k∧∀ y,elems[i]? = some y→P t.1 y.1 t.2:=fun i hi=>by
   have hi2:i<elems.length:=(by omega);have hbb:=hE i hi;rw [List.getElem?_eq_getElem hi2,Option.bind_eq_some_iff] at hbb;obtain⟨cs',hc',ht'⟩:=hbb;obtain⟨_,hcl,hat⟩:=World.cells?_some hc';have hmem:elems[i]∈elems:=List.getElem_mem hi2
   obtain⟨t,hp⟩:=hel m cs' elems[i] (by omega) hcl ht'
    (fun y hy=>hlt y (List.mem_append.2 (.inr (List.mem_flatMap.2 ⟨_,List.mem_append.2 (.inl hmem),hy⟩))))
    (fun q hq=>hw q (by
     simp only [DataW.weights,hT,List.mem_cons,List.mem_append];exact .inr (.inl (weights_in (List.mem_map.2 ⟨_,hmem,rfl⟩) q hq))))
   exact⟨(cs',t),hat,hcl,fun y hy=>by rw [List.getElem?_eq_getElem hi2] at hy;cases hy;exact hp⟩
  obtain⟨l,hll,hq⟩:=pick_list len each;have get:∀ (i:Nat) (y:α),(l.map (·.2))[i]? = some y→∃ t:List Value × α,l[i]? = some t∧t.2=y:=fun i y he=>by
   rw [List.getElem?_map] at he;obtain⟨t,ht,rfl⟩:=Option.map_eq_some_iff.1 he;exact⟨t,ht,rfl⟩
  have hkl:(l.map (·.2)).length=len:=(by rw [List.length_map,hll]);refine⟨some a,cap,l.map (·.2),fun i=>((l[i]?).map (·.1)).getD [],by rw [hkl],by rw [hkl];exact hbytes,by rw [hkl];exact hlc,fun hpos=>?_,fun i y he=>?_,fun f hf=>?_⟩
  ·rw [hkl] at hpos;obtain⟨b,off,spot⟩:=a;have hspot:spot=none:=by
    obtain⟨t0,ht0⟩:∃ t,l[0]? = some t:=⟨_,List.getElem?_eq_getElem (by omega)⟩;obtain⟨g1,g2,_⟩:=hq 0 t0 ht0;have:=g1 0 h0;rw [List.getElem?_eq_getElem (by rw [g2];exact h0)] at this
    simpa [Addr.add] using World.cell?_spot this
   subst hspot;refine⟨b,off,rfl,hlt (.cell b off) (List.mem_append.2 (.inl (MemPlace.mem_row.2 ⟨0,Nat.mul_pos (by omega) h0,by simp⟩))),fun i y he j hj=>?_⟩;obtain⟨t,ht,_⟩:=get i y he;have:=(hq i t ht).1 j hj;rw [add_at,add_at] at this;rw [this];show t.1[j]? = (((l[i]?).map (·.1)).getD [])[j]?;rw [ht];rfl
  ·obtain⟨t,ht,rfl⟩:=get i y he;have hil:=(List.getElem?_eq_some_iff.1 ht).1;have hi2:i<elems.length:=(by omega);have:=(hq i t ht).2.2 _ (List.getElem?_eq_getElem hi2);refine⟨elems[i].1,?_⟩
   ·show P (((l[i]?).map (·.1)).getD []) _ _;rw [ht];exact this
  ·have q:=sum_bulk f (l.map (·.2)) ((elems.map (·.1)).take len) (by rw [hkl,List.length_take,List.length_map];omega) (fun i y d he hd=>by
    obtain⟨t,ht,rfl⟩:=get i y he;have hil:=(List.getElem?_eq_some_iff.1 ht).1;rw [List.getElem?_take,if_pos (by omega),List.getElem?_map] at hd;obtain⟨u,hu,rfl⟩:=Option.map_eq_some_iff.1 hd;exact hf _ _ _ ((hq i t ht).2.2 u hu))
   have hle:len=elems.length:=(by omega);rw [List.take_of_length_le (by rw [List.length_map];omega)] at q;simp only [Rows.uptoBulk];omega
theorem open_strs (fuel:Nat) (v:Value) (x:DataW H × List MemPlace) (h:DataW.trod enc Tryz.prog W 0 (fun _=>true) true fuel 27 [v]=some x) (hlt:∀ y∈x.2,y.block<W.heap.size) (hw:∀ n∈x.1.weights Tryz.prog 27,n≤140737488351232):∃ l,StA W.heap.size W v l:=by
 obtain⟨p,cap,l,C,rfl,h1,h2,h3,h4,_⟩:=open_row (W:=W) (enc:=enc) 27 9 1 16 Tryz.underlying27 ClW.cells_string ClW.bytes_string (by decide) (fun cs _ (s:ByteArray)=>cs=[.string s]∧s.size≤140737488351232) fuel (fun m cs x _ _ h _ hw=>by
  obtain⟨s,e,g,_⟩:=DataW.trod_string Tryz.underlying9 h;refine⟨s,e,?_⟩;rw [g] at hw;have:=hw s.data.toList.length (by simp [DataW.weights]);rw [len_data] at this;exact this) v x h hlt hw
 refine⟨l,p,cap,rfl,h1,h2,fun s hs=>?_,fun h0=>?_⟩
 ·obtain⟨i,hi⟩:=List.getElem?_of_mem hs;obtain⟨_,_,hz⟩:=h4 i s hi;exact hz
 ·obtain⟨b,off,e,hb,hcell⟩:=h3 h0;refine⟨b,off,e,hb,fun i s hi=>?_⟩;obtain⟨_,hc,_⟩:=h4 i s hi;have:=hcell i s hi 0 (by decide);rw [hc,Nat.mul_one] at this;exact this
theorem open_wts (fuel:Nat) (v:Value) (x:DataW H × List MemPlace) (h:DataW.trod enc Tryz.prog W 0 (fun _=>true) true fuel 53 [v]=some x) (hlt:∀ y∈x.2,y.block<W.heap.size) (hw:∀ n∈x.1.weights Tryz.prog 53,n≤140737488351232):∃ l,WtA W.heap.size W v l:=by
 obtain⟨p,cap,l,C,rfl,h1,h2,h3,h4,_⟩:=open_row (W:=W) (enc:=enc) 53 130 4 32 Tryz.underlying53 ClW.cells_Weight ClW.bytes_Weight (by decide) (fun cs _ (t:Wt)=>cs=[.int .i64 t.lo,.int .i64 t.hi,.int .i64 t.wt,.bool t.ea]) fuel (fun m cs x _ hl h _ hw=>by
  obtain⟨xs,n,rfl,rfl,_,hlen,hfd⟩:=DataW.trod_struct Tryz.underlying130 h;match cs,hl with
  | [c0,c1,c2,c3],_ =>
   match xs,hlen with
   | [y0,y1,y2,y3],_ =>
    have h0:DataW.trod enc Tryz.prog W 0 (fun _=>true) true n 3 ([c0,c1,c2,c3].take (Tryz.prog.cellsOf 3))=some y0:=hfd 0 _ rfl;rw [ClW.cells_int,show [c0,c1,c2,c3].take 1=[c0] from rfl] at h0;obtain⟨m0,e0,_,_⟩:=DataW.trod_int Tryz.underlying3 h0;obtain rfl:c0=.int .i64 m0:=(by simpa using e0);have h1:DataW.trod enc Tryz.prog W 0 (fun _=>true) true n 3 ([c1,c2,c3].take (Tryz.prog.cellsOf 3))=some y1:=hfd 1 _ rfl;rw [ClW.cells_int,show [c1,c2,c3].take 1=[c1] from rfl] at h1;obtain⟨m1,e1,_,_⟩:=DataW.trod_int Tryz.underlying3 h1;obtain rfl:c1=.int .i64 m1:=(by simpa using e1);have h2:DataW.trod enc Tryz.prog W 0 (fun _=>true) true n 3 ([c2,c3].take (Tryz.prog.cellsOf 3))=some y2:=hfd 2 _ rfl;rw [ClW.cells_int,show [c2,c3].take 1=[c2] from rfl] at h2;obtain⟨m2,e2,_,_⟩:=DataW.trod_int Tryz.underlying3 h2;obtain rfl:c2=.int .i64 m2:=(by simpa using e2);have h3:DataW.trod enc Tryz.prog W 0 (fun _=>true) true n 4 ([c3].take (Tryz.prog.cellsOf 4))=some y3:=hfd 3 _ rfl;rw [ClW.cells_bool,show [c3].take 1=[c3] from rfl] at h3;obtain⟨m3,e3,_⟩:=DataW.trod_bool Tryz.underlying4 h3;obtain rfl:c3=.bool m3:=(by simpa using e3);exact⟨⟨m0,m1,m2,m3⟩,rfl⟩) v x h hlt hw
 refine⟨l,p,cap,rfl,h1,h2,fun h0=>?_⟩;obtain⟨b,off,e,hb,hcell⟩:=h3 h0;refine⟨b,off,e,hb,fun i t hi=>?_⟩;obtain⟨_,hc⟩:=h4 i t hi;have c:=(fun j hj=>hcell i t hi j hj);rw [hc] at c;exact⟨c 0 (by decide),c 1 (by decide),c 2 (by decide),c 3 (by decide)⟩
def ItP (W:World) (cs:List Value) (d:DataW H) (x:It):Prop :=
 (∃ a4 a7 a8 a9 a10 a11,cs=[.int .i64 x.kd,.int .i64 x.e.op,.int .i64 x.e.n,.string x.e.nm,a4,.string x.nm,.string x.ix,a7,a8,a9,a10,a11]∧IV W.heap.size W a4 a7 a8 a9 a10 a11 x)∧isz x≤Rows.uptoBulk d
theorem open_item (fuel:Nat) (ih:∀ m,m<fuel→∀ (v:Value) (x:DataW H × List MemPlace),DataW.trod enc Tryz.prog W 0 (fun _=>true) true m 22 [v]=some x→(∀ y∈x.2,y.block<W.heap.size)→(∀ n∈x.1.weights Tryz.prog 22,n≤140737488351232)→∃ l,ItsA W.heap.size W v l∧iszs l≤Rows.uptoBulk x.1)
  (cs:List Value) (x:DataW H × List MemPlace) (hl:cs.length=12) (h:DataW.trod enc Tryz.prog W 0 (fun _=>true) true fuel 55 cs=some x) (hlt:∀ y∈x.2,y.block<W.heap.size) (hw:∀ n∈x.1.weights Tryz.prog 55,n≤140737488351232):∃ t,ItP W cs x.1 t:=by
 obtain⟨xs,n,rfl,rfl,_,hlen,hfd⟩:=DataW.trod_struct Tryz.underlying55 h;match cs,hl with
 | [c0,c1,c2,c3,c4,c5,c6,c7,c8,c9,c10,c11],_ =>
  match xs,hlen with
  | [y0,y1,y2,y3,y4,y5,y6,y7,y8],_ =>
   have h0:DataW.trod enc Tryz.prog W 0 (fun _=>true) true n 3 ([c0,c1,c2,c3,c4,c5,c6,c7,c8,c9,c10,c11].take (Tryz.prog.cellsOf 3))=some y0:=hfd 0 _ rfl;rw [ClW.cells_int,show [c0,c1,c2,c3,c4,c5,c6,c7,c8,c9,c10,c11].take 1=[c0] from rfl] at h0;obtain⟨m0,e0,_,_⟩:=DataW.trod_int Tryz.underlying3 h0;obtain rfl:c0=.int .i64 m0:=(by simpa using e0);have h1:DataW.trod enc Tryz.prog W 0 (fun _=>true) true n 43 ([c1,c2,c3,c4,c5,c6,c7,c8,c9,c10,c11].take (Tryz.prog.cellsOf 43))=some y1:=hfd 1 _ rfl;rw [ClW.cells_Expr,show [c1,c2,c3,c4,c5,c6,c7,c8,c9,c10,c11].take 4=[c1,c2,c3,c4] from rfl] at h1;have p1:∀ z∈y1.2,z.block<W.heap.size:=(fun z hz=>hlt z (List.mem_flatMap.2 ⟨y1,by simp,hz⟩));have w1:∀ q∈y1.1.weights Tryz.prog 43,q≤140737488351232:=fun q hq=>hw q (by
    simp only [DataW.weights,Tryz.underlying55];exact DataW.weights_mem_each (j:=1) rfl rfl q hq)
   obtain⟨e1,q1,k1,hc1,a1⟩:=open_ex n [c1,c2,c3,c4] y1 rfl h1 p1 w1;obtain⟨rfl,rfl,rfl,rfl⟩:c1=.int .i64 e1.op∧c2=.int .i64 e1.n∧c3=.string e1.nm∧c4=.slice q1 e1.args.length k1:=(by simpa using hc1);have h2:DataW.trod enc Tryz.prog W 0 (fun _=>true) true n 9 ([c5,c6,c7,c8,c9,c10,c11].take (Tryz.prog.cellsOf 9))=some y2:=hfd 2 _ rfl;rw [ClW.cells_string,show [c5,c6,c7,c8,c9,c10,c11].take 1=[c5] from rfl] at h2;have p2:∀ z∈y2.2,z.block<W.heap.size:=(fun z hz=>hlt z (List.mem_flatMap.2 ⟨y2,by simp,hz⟩));have w2:∀ q∈y2.1.weights Tryz.prog 9,q≤140737488351232:=fun q hq=>hw q (by
    simp only [DataW.weights,Tryz.underlying55];exact DataW.weights_mem_each (j:=2) rfl rfl q hq)
   obtain⟨s2,e2,g2,_⟩:=DataW.trod_string Tryz.underlying9 h2;obtain rfl:c5=.string s2:=(by simpa using e2);have z2:s2.size≤140737488351232:=by
    rw [g2] at w2;have:=w2 s2.data.toList.length (by simp [DataW.weights]);rw [len_data] at this;exact this
   have h3:DataW.trod enc Tryz.prog W 0 (fun _=>true) true n 9 ([c6,c7,c8,c9,c10,c11].take (Tryz.prog.cellsOf 9))=some y3:=hfd 3 _ rfl;rw [ClW.cells_string,show [c6,c7,c8,c9,c10,c11].take 1=[c6] from rfl] at h3;have p3:∀ z∈y3.2,z.block<W.heap.size:=(fun z hz=>hlt z (List.mem_flatMap.2 ⟨y3,by simp,hz⟩));have w3:∀ q∈y3.1.weights Tryz.prog 9,q≤140737488351232:=fun q hq=>hw q (by
    simp only [DataW.weights,Tryz.underlying55];exact DataW.weights_mem_each (j:=3) rfl rfl q hq)
   obtain⟨s3,e3,g3,_⟩:=DataW.trod_string Tryz.underlying9 h3;obtain rfl:c6=.string s3:=(by simpa using e3);have z3:s3.size≤140737488351232:=by
    rw [g3] at w3;have:=w3 s3.data.toList.length (by simp [DataW.weights]);rw [len_data] at this;exact this
   have h4:DataW.trod enc Tryz.prog W 0 (fun _=>true) true n 53 ([c7,c8,c9,c10,c11].take (Tryz.prog.cellsOf 53))=some y4:=hfd 4 _ rfl;rw [ClW.cells_SWeight,show [c7,c8,c9,c10,c11].take 1=[c7] from rfl] at h4;have p4:∀ z∈y4.2,z.block<W.heap.size:=(fun z hz=>hlt z (List.mem_flatMap.2 ⟨y4,by simp,hz⟩));have w4:∀ q∈y4.1.weights Tryz.prog 53,q≤140737488351232:=fun q hq=>hw q (by
    simp only [DataW.weights,Tryz.underlying55];exact DataW.weights_mem_each (j:=4) rfl rfl q hq)
   obtain⟨l4,a4⟩:=open_wts n c7 y4 h4 p4 w4;have h5:DataW.trod enc Tryz.prog W 0 (fun _=>true) true n 22 ([c8,c9,c10,c11].take (Tryz.prog.cellsOf 22))=some y5:=hfd 5 _ rfl;rw [ClW.cells_SItem,show [c8,c9,c10,c11].take 1=[c8] from rfl] at h5;have p5:∀ z∈y5.2,z.block<W.heap.size:=(fun z hz=>hlt z (List.mem_flatMap.2 ⟨y5,by simp,hz⟩));have w5:∀ q∈y5.1.weights Tryz.prog 22,q≤140737488351232:=fun q hq=>hw q (by
    simp only [DataW.weights,Tryz.underlying55];exact DataW.weights_mem_each (j:=5) rfl rfl q hq)
   obtain⟨l5,a5,b5⟩:=ih n (by omega) c8 y5 h5 p5 w5;have h6:DataW.trod enc Tryz.prog W 0 (fun _=>true) true n 22 ([c9,c10,c11].take (Tryz.prog.cellsOf 22))=some y6:=hfd 6 _ rfl;rw [ClW.cells_SItem,show [c9,c10,c11].take 1=[c9] from rfl] at h6;have p6:∀ z∈y6.2,z.block<W.heap.size:=(fun z hz=>hlt z (List.mem_flatMap.2 ⟨y6,by simp,hz⟩));have w6:∀ q∈y6.1.weights Tryz.prog 22,q≤140737488351232:=fun q hq=>hw q (by
    simp only [DataW.weights,Tryz.underlying55];exact DataW.weights_mem_each (j:=6) rfl rfl q hq)
   obtain⟨l6,a6,b6⟩:=ih n (by omega) c9 y6 h6 p6 w6;have h7:DataW.trod enc Tryz.prog W 0 (fun _=>true) true n 27 ([c10,c11].take (Tryz.prog.cellsOf 27))=some y7:=hfd 7 _ rfl;rw [ClW.cells_Sstring,show [c10,c11].take 1=[c10] from rfl] at h7;have p7:∀ z∈y7.2,z.block<W.heap.size:=(fun z hz=>hlt z (List.mem_flatMap.2 ⟨y7,by simp,hz⟩));have w7:∀ q∈y7.1.weights Tryz.prog 27,q≤140737488351232:=fun q hq=>hw q (by
    simp only [DataW.weights,Tryz.underlying55];exact DataW.weights_mem_each (j:=7) rfl rfl q hq)
   obtain⟨l7,a7⟩:=open_strs n c10 y7 h7 p7 w7;have h8:DataW.trod enc Tryz.prog W 0 (fun _=>true) true n 27 ([c11].take (Tryz.prog.cellsOf 27))=some y8:=hfd 8 _ rfl;rw [ClW.cells_Sstring,show [c11].take 1=[c11] from rfl] at h8;have p8:∀ z∈y8.2,z.block<W.heap.size:=(fun z hz=>hlt z (List.mem_flatMap.2 ⟨y8,by simp,hz⟩));have w8:∀ q∈y8.1.weights Tryz.prog 27,q≤140737488351232:=fun q hq=>hw q (by
    simp only [DataW.weights,Tryz.underlying55];exact DataW.weights_mem_each (j:=8) rfl rfl q hq)
   obtain⟨l8,a8⟩:=open_strs n c11 y8 h8 p8 w8;refine⟨.mk m0 e1 s2 s3 l4 l5 l6 l7 l8,⟨_,_,_,_,_,_,rfl,⟨z2,z3,a1,a4,a5,a6,a7,a8⟩⟩,?_⟩;have e9:∀ (A B C D E F G I J:DataW H),Rows.uptoBulk (.agg [A,B,C,D,E,F,G,I,J])=Rows.uptoBulk A+(Rows.uptoBulk B+(Rows.uptoBulk C+(Rows.uptoBulk D+(Rows.uptoBulk E+(Rows.uptoBulk F+(Rows.uptoBulk G+(Rows.uptoBulk I+(Rows.uptoBulk J+0))))))))+1:=(fun _ _ _ _ _ _ _ _ _=>by simp only [Rows.uptoBulk,Rows.uptoBulkAll]);rw [isz_eq];simp only [It.it,It.el,List.map_cons,List.map_nil];rw [e9];omega
theorem open_itemsF:∀ (fuel:Nat) (v:Value) (x:DataW H × List MemPlace),DataW.trod enc Tryz.prog W 0 (fun _=>true) true fuel 22 [v]=some x→(∀ y∈x.2,y.block<W.heap.size)→(∀ n∈x.1.weights Tryz.prog 22,n≤140737488351232)→∃ l,ItsA W.heap.size W v l∧iszs l≤Rows.uptoBulk x.1:=by
 intro fuel;induction fuel using Nat.strongRecOn with
 | _ fuel ih =>
 intro v x h hlt hw;obtain⟨p,cap,l,C,rfl,h1,h2,h3,h4,h5⟩:=open_row (W:=W) (enc:=enc) 22 55 12 216 Tryz.underlying22 ClW.cells_Item ClW.bytes_Item (by decide) (ItP W) fuel (fun m cs y hm hl h hlt hw=>open_item m (fun m' hm'=>ih m' (by omega)) cs y hl h hlt hw) v x h hlt hw;refine⟨l,?_,?_⟩
 ·have hv:∀ (i:Nat) (t:It),l[i]? = some t→C i=[.int .i64 t.kd,.int .i64 t.e.op,.int .i64 t.e.n,.string t.e.nm,(C i).getD 4 (.bool false),.string t.nm,.string t.ix,(C i).getD 7 (.bool false),(C i).getD 8 (.bool false),(C i).getD 9 (.bool false),(C i).getD 10 (.bool false),(C i).getD 11 (.bool false)] ∧
    IV W.heap.size W ((C i).getD 4 (.bool false)) ((C i).getD 7 (.bool false)) ((C i).getD 8 (.bool false)) ((C i).getD 9 (.bool false)) ((C i).getD 10 (.bool false)) ((C i).getD 11 (.bool false)) t:=fun i t hi=>by
   obtain⟨d,⟨a4,a7,a8,a9,a10,a11,e,hI⟩,_⟩:=h4 i t hi;rw [e];exact⟨rfl,hI⟩
  have r:RowI W.heap.size W p cap (fun i j=>(C i).getD j (.bool false)) l:=⟨h1,h2,fun h0=>by
   obtain⟨b,off,e,hb,hcell⟩:=h3 h0;refine⟨b,off,e,hb,fun i t hi=>?_⟩;have c:=(fun j hj=>hcell i t hi j hj);rw [(hv i t hi).1] at c;exact⟨c 0 (by decide),c 1 (by decide),c 2 (by decide),c 3 (by decide),c 4 (by decide),c 5 (by decide),c 6 (by decide),c 7 (by decide),c 8 (by decide),c 9 (by decide),c 10 (by decide),c 11 (by decide)⟩,fun i t hi=>(hv i t hi).2⟩
  exact r.its
 ·rw [iszs_sum];exact h5 isz fun cs d t h=>h.2
end
theorem open_items {H:Type} {enc:TypeId × Value→H} {W:World} {r:Reach} {b0:Nat} {v:Value} {d:DataW H} {p:List MemPlace} (hval:Value.okWide Tryz.prog W r b0 22 v)
  (h:DataW.Trod enc Tryz.prog W 0 (fun _=>true) true 22 v d p) (hlt:∀ x∈p,x.block<W.heap.size) (hw:∀ n∈d.weights Tryz.prog 22,n≤140737488351232) :
  ∃ l:List It,ItsA W.heap.size W v l∧iszs l≤Rows.uptoBulk d:=by
 obtain⟨a0,len0,cap0,rfl⟩:=okWide_slice Tryz.underlying22 hval;obtain⟨fuel,hf⟩:=h;exact open_itemsF fuel _ (d,p) (by simpa [Value.cells] using hf) hlt hw
end ItW
end Go.Proofs.YtpejflgdehioaaaGreatDoor
