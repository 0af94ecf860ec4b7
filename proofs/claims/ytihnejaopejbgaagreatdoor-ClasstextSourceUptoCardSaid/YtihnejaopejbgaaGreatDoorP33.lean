/-
  Laws that the card uses; no conditions beside those that each states (ItSize ItValid CtTop ClMath2 CtPub CtSrc CtAwM).
-/
import Derived.Test.YtihnejaopejbgaaGreatDoorP19
import Derived.Test.YtihnejaopejbgaaGreatDoorP20
import Derived.Test.YtihnejaopejbgaaGreatDoorP28
import Derived.Test.YtihnejaopejbgaaGreatDoorP29
set_option maxRecDepth 100000
set_option maxHeartbeats 16000000
namespace Go.Proofs.YtihnejaopejbgaaGreatDoor
namespace ItW
open Go Go.RowKit Go.Shelf LexW LexM ExM ExW ItM
open ClM (firstE)
attribute [local go_sem] Oper.semAt_some
theorem itemSize_any (l0:List It) (v:Value) (w:World) (hx:ItsA w.heap.size w v l0) (hsz:iszs l0≤2000000) :
  Calls Tryz.prog 44 #[v] w fun x w'=>x=.returned (.int .i64 (iszs l0))∧Below w.heap.size w w':=by
 obtain⟨p,cap,V,rfl,_⟩:=hx.form;have HX:=Lh hx;clear hx;generalize l0.length=K at *
 refine (callsIn_wide (n:=9)).1 ?_;refine callsIn_of_wp_marks Tryz.func44 rfl trivial ?_ rfl;simp only [Tryz.ntmps44,List.size_toArray,List.length_cons,List.length_nil,Nat.reduceAdd,Nat.reduceSub,Array.replicate_succ,Array.replicate_zero,List.push_toArray,List.append_toArray,List.nil_append,List.cons_append]
 gi_wp2_with (refine⟨trivial,?_⟩;gi_at_call 45;refine (constraints_in Fence.wide _ trivial rfl _ _ _ _).mono ?_;rintro e w' ⟨rfl,rfl⟩)
 have bS:=(Boxed.new w 3 (.int .i64 0)).alloc (.cells #[.slice p K cap] 26);have bL:=Boxed.new (w.alloc (.cells #[.int .i64 0] 3)) 26 (.slice p K cap);have hB0:Below w.heap.size w ((w.alloc (.cells #[.int .i64 0] 3)).alloc (.cells #[.slice p K cap] 26)):=((Below.refl _ w).alloc (Nat.le_refl _) _).alloc (by simp) _;have hz:((w.alloc (.cells #[.int .i64 0] 3)).alloc (.cells #[.slice p K cap] 26)).heap.size=w.heap.size+2:=(by simp);simp only [World.size_alloc] at bL;obtain⟨W0,hW0⟩:∃ W0,(w.alloc (.cells #[.int .i64 0] 3)).alloc (.cells #[.slice p K cap] 26)=W0:=⟨_,rfl⟩;rw [hW0] at bS bL hB0 hz ⊢;clear hW0
 refine range_tells rfl (by decide) (gf:=73) (lb:=#[.pointer (some ⟨w.heap.size+1,0,none⟩)]) rfl trivial (enters_of Tryz.func73 (by kernel_rfl) rfl)
  (constraints_tells Fence.wide rfl _ trivial trivial rfl w.heap.size (w.heap.size+1) (w.heap.size+1) (by omega) l0 hsz (fun _=>True) (fun _ _=>trivial) _ W0 (by omega) bL (HX.out.under hB0)) keepC_t (keepC_b (by omega)) (fun _=>rfl)
  (fun bef W=>Boxed W w.heap.size 3 (.int .i64 bef.length)∧Below w.heap.size w W)
  (fun _ _ _=>False)
  (OwnFrom.and (Own.from (boxed_own _ _ _) _) (ownFrom_below (Nat.le_refl _) (by omega)))
  (fun _ _ _ _ _ hs _ _=>hs)
  ⟨bS,hB0⟩ ?round ?done ?stop
 case round =>
  rintro l bef x W hl ⟨bS1,hB1⟩ _ hlt;rw [zip2]
  gi_wp2
  refine⟨KeepsFrom.refl _ _,KeepC.refl _ _ _,⟨bS1,hB1⟩,?_⟩;rintro Wb hnear ⟨bS2,hB2⟩;have cS:=bS2.cell;have fS:=bS2.frozen;have hbl:bef.length≤2000000:=by omega
  gi_wp2
  exact⟨(KeepsOthers.setCell _ _ _).from _,(KeepC.refl _ _ _).set (Nat.le_refl _) (by omega) _,by rw [List.length_append];exact bS2.set _,hB2.setCell (p:=⟨w.heap.size,0,none⟩) (by simp) _⟩
 case done =>
  rintro D zs W hD hzs ⟨bS1,hB1⟩ hK;have cS:=bS1.cell;have hl:zs.length=iszs l0:=(by rw [←wks_len l0 0 [],←hzs,List.length_map]);rw [hl] at cS;clear bS1 hl hzs
  gi_wp2
  refine⟨by simp,.inl ⟨_,_,rfl,run_takeDeferred hK,?_⟩⟩;exact⟨_,results_tmp rfl _ _ _,rfl,hB1.trans (belowK_b (w:=w) (Nat.le_refl _) W D _ _ (by omega) hK rfl rfl)⟩
 case stop =>
  rintro D c bef W _ _ h _;exact h.elim
end ItW
namespace ItW
open Go Go.RowKit Go.Shelf LexW LexM ExM ExW ItM
open ClM (firstE firstE_zero)
attribute [local go_sem] Oper.semAt_some
theorem below_in {n₀:Nat} {A B C:World} (h:Below n₀ A B) (k:Below n₀ A C):∀ b o,b<n₀→∀ v,B.cell? ⟨b,o,none⟩=some v→C.cell? ⟨b,o,none⟩=some v:=fun b o hlt _ hv =>
 (k.cell (p:=⟨b,o,none⟩) hlt).trans ((h.cell (p:=⟨b,o,none⟩) hlt).symm.trans hv)
theorem first_of {L:List Pl} {q M:List Pl} {g:Pl→Int} (h:q <+: L) (hL:L=M) (hne:firstE (q.map g)≠0):firstE (M.map g)=firstE (q.map g):=by
 subst hL;obtain⟨r,rfl⟩:=h;rw [List.map_append,firstE_append,if_neg hne]
theorem itemValid_any (l0:List It) (v:Value) (w:World) (hx:ItsA w.heap.size w v l0) (hsz:iszs l0≤2000000) (hrs:RsL l0) (ht:Tab w) :
  Calls Tryz.prog 27 #[v] w (tInt (validI l0) w):=by
 obtain⟨p,cap,V,rfl,hri⟩:=hx.form;have hK0:l0.length≤140737488351232:=(by have:=hri.hl;omega);have HX:=Lh hx;have HT:=Lh ht;have HRS:Hid (∀ q∈wks 0 [] l0,Nd1 q.x):=Lh (rs_wks l0 0 [] hrs);have SC:Hid (∀ n W,Below w.heap.size w W→CallsIn Fence.wide n Tryz.prog 44 #[.slice p l0.length cap] W fun x w'=>x=.returned (.int .i64 (iszs l0))∧Below W.heap.size W w'):=(Lh fun n W hW=>callsIn_wide.2 (itemSize_any l0 _ W ((HX.out.under hW).wide hW.size) hsz));clear hx ht hrs hri;generalize l0.length=K at *
 refine (callsIn_wide (n:=9)).1 ?_;refine callsIn_of_wp_marks Tryz.func27 rfl trivial ?_ rfl;simp only [Tryz.ntmps27,List.size_toArray,List.length_cons,List.length_nil,Nat.reduceAdd,Nat.reduceSub,Array.replicate_succ,Array.replicate_zero,List.push_toArray,List.append_toArray,List.nil_append,List.cons_append];have hbR:Below w.heap.size w (w.alloc (.cells #[.int .i64 0] 40)):=(Below.refl _ _).alloc (Nat.le_refl _) _;have HBR:=Lh hbR;have HR0:=Lh (Boxed.new w 40 (.int .i64 0));clear hbR;obtain⟨Z,hZ⟩:∃ Z,iszs l0=Z:=⟨_,rfl⟩;have HV:Hid (validI l0=if 64<Z then 2 else firstV l0):=Lh (by unfold validI;rw [hZ]);have HZ:=Lh hZ;rw [hZ] at SC hsz;clear hZ;by_cases h64:64<Z
 ·have q:decide ((64:Int)<Z)=true:=decide_eq_true (by omega);have E:Hid (2=validI l0):=Lh (by rw [HV.out,if_pos h64])
  gi_wp2_with (refine⟨trivial,?_⟩;gi_at_call 44;refine (SC.out _ _ HBR.out).mono ?_;rintro e w1 ⟨rfl,hb⟩;have bR:=bxStay HR0.out hb;have cR:=bR.cell;have fR:=bR.frozen;have HB1:=Lh (HBR.out.then_ hb);clear hb)
  refine⟨.int .i64 2,?_,ExW.tInt_mk E.out (HB1.out.setCell (p:=⟨w.heap.size,0,none⟩) (by simp) _)⟩;have hc5:=World.cell?_setCell_same' w1 ⟨w.heap.size,0,none⟩ (.int .i64 2) (by rw [cR];rfl);simp [results,Tryz.results27,go_sem,hc5]
 ·have q:decide ((64:Int)<Z)=false:=decide_eq_false (by omega);have HV2:Hid (validI l0=firstV l0):=Lh (by rw [HV.out,if_neg h64])
  gi_wp2_with (first
   |(refine⟨trivial,?_⟩;gi_at_call 44;refine (SC.out _ _ HBR.out).mono ?_;rintro e w1 ⟨rfl,hb⟩;have bR:=bxStay HR0.out hb;have HB1:=Lh (HBR.out.then_ hb);have HR1:=Lh bR;clear hb bR)
   |(refine⟨trivial,?_⟩;gi_at_call 45;refine (constraints_in Fence.wide _ trivial rfl _ _ _ _).mono ?_;rintro e w' ⟨rfl,rfl⟩))
  have hs1:=HB1.out.size;have hR1l:=HR1.out.lt;have bR:=HR1.out.alloc (.cells #[.slice p K cap] 26);have bL:=Boxed.new w1 26 (.slice p K cap);have hB0:Below w.heap.size w (w1.alloc (.cells #[.slice p K cap] 26)):=HB1.out.alloc (by omega) _;have hz:(w1.alloc (.cells #[.slice p K cap] 26)).heap.size=w1.heap.size+1:=(by simp);obtain⟨W0,hW0⟩:∃ W0,w1.alloc (.cells #[.slice p K cap] 26)=W0:=⟨_,rfl⟩;rw [hW0] at bR bL hB0 hz ⊢;clear hW0
  refine range_tells rfl (by decide) (gf:=73) (lb:=#[.pointer (some ⟨w1.heap.size,0,none⟩)]) rfl trivial (enters_of Tryz.func73 (by kernel_rfl) rfl)
   (constraints_tells Fence.wide rfl _ trivial trivial rfl w.heap.size (w.heap.size+1) w1.heap.size (by omega) l0 (by rw [HZ.out];exact hsz) (fun q=>Nd1 q.x) HRS.out _ W0 (by omega) bL (HX.out.under hB0)) keepC_t (keepC_b (by omega)) (fun _=>rfl)
   (fun bef W=>(Boxed W w.heap.size 40 (.int .i64 0)∧firstE ((bef.map Pn.pl).map fltP)=0)∧Below w.heap.size w W)
   (fun c bef W=>(Boxed W w.heap.size 40 (.int .i64 (firstE ((bef.map Pn.pl).map fltP)))∧(c=.ret∧firstE ((bef.map Pn.pl).map fltP)≠0))∧Below w.heap.size w W)
   (OwnFrom.and (OwnFrom.and (Own.from (boxed_own _ _ _) _) (ownFrom_pure _ _)) (ownFrom_below (Nat.le_refl _) (by omega)))
   (fun c=>OwnFrom.and (OwnFrom.and (Own.from (boxed_own _ _ _) _) (ownFrom_pure _ _)) (ownFrom_below (Nat.le_refl _) (by omega)))
   ⟨⟨bR,rfl⟩,hB0⟩ ?round ?done ?stop
  case round =>
   rintro l bef x W hl ⟨⟨bR1,hf1⟩,hB1⟩ htell hlt;have hnd:=htell.2;have HMP:Hid (firstE (((bef++[x]).map Pn.pl).map fltP)=fltP x.pl):=Lh (by rw [List.map_append,List.map_append,List.map_cons,List.map_nil,List.map_cons,List.map_nil,firstE_snoc,if_pos hf1]);have hWs:=hB1.size;have hl1:=bR1.lt;have HBR1:=Lh bR1;have HF1:=Lh hf1;have HBW:=Lh hB1;clear htell bR1 hf1 hB1;have hpl:x.pl=⟨x.d,x.B,x.x⟩:=rfl;rw [hpl] at HMP hnd;obtain⟨d,B,it,a4,a7,a8,a9,a10,a11,mb,hd,hv⟩:=x;simp only at HMP hnd hpl ⊢;obtain⟨p4,k4,p7,k7,p8,k8,p9,k9,p10,k10,p11,k11,rfl,rfl,rfl,rfl,rfl,rfl⟩:=hv.slices;rw [zip2];have b1:Below W.heap.size W ((W.alloc (.cells #[.int .i64 d,.map (some mb)] 84)).alloc (.cells (ics it.kd it.e.op it.e.n it.e.nm (.slice p4 it.e.args.length k4) it.nm it.ix (.slice p7 it.ws.length k7) (.slice p8 it.it.length k8) (.slice p9 it.el.length k9) (.slice p10 it.bf.length k10) (.slice p11 it.af.length k11)).toArray 53)):=((Below.refl _ _).alloc (Nat.le_refl _) _).alloc (by simp) _;have FP:=(Blk.new W [.int .i64 d,.map (some mb)] 84).alloc (.cells (ics it.kd it.e.op it.e.n it.e.nm (.slice p4 it.e.args.length k4) it.nm it.ix (.slice p7 it.ws.length k7) (.slice p8 it.it.length k8) (.slice p9 it.el.length k9) (.slice p10 it.bf.length k10) (.slice p11 it.af.length k11)).toArray 53);have FI:=Blk.new (W.alloc (.cells #[.int .i64 d,.map (some mb)] 84)) (ics it.kd it.e.op it.e.n it.e.nm (.slice p4 it.e.args.length k4) it.nm it.ix (.slice p7 it.ws.length k7) (.slice p8 it.it.length k8) (.slice p9 it.el.length k9) (.slice p10 it.bf.length k10) (.slice p11 it.af.length k11)) 53;rw [World.size_alloc] at FI;have B1:=Lh b1;have FP1:=Lh FP;have FI1:=Lh FI;clear b1 FP FI
   gi_wp2
   refine⟨keepsFrom_below B1.out,KeepC.of_below B1.out,⟨⟨bxStay HBR1.out B1.out,HF1.out⟩,HBW.out.trans (B1.out.mono hWs)⟩,?_⟩;rintro Wb hnear ⟨⟨bR2,_⟩,hB2⟩;have d0:=hnear.cell (FP1.out.c 0 _ rfl);have e0:=hnear.cell (FI1.out.c 0 _ rfl);have e1:=hnear.cell (FI1.out.c 1 _ rfl);have e2:=hnear.cell (FI1.out.c 2 _ rfl);have e3:=hnear.cell (FI1.out.c 3 _ rfl);have e4:=hnear.cell (FI1.out.c 4 _ rfl);have e5:=hnear.cell (FI1.out.c 5 _ rfl);have e6:=hnear.cell (FI1.out.c 6 _ rfl);have e7:=hnear.cell (FI1.out.c 7 _ rfl);have e8:=hnear.cell (FI1.out.c 8 _ rfl);have e9:=hnear.cell (FI1.out.c 9 _ rfl);have e10:=hnear.cell (FI1.out.c 10 _ rfl);have e11:=hnear.cell (FI1.out.c 11 _ rfl);have hsb:=hB2.size;have hlR:=bR2.lt;have FC:Hid (∀ n,CallsIn (Fence.wide.inRound l) n Tryz.prog 46 #[iv it.kd it.e.op it.e.n it.e.nm (.slice p4 it.e.args.length k4) it.nm it.ix (.slice p7 it.ws.length k7) (.slice p8 it.it.length k8) (.slice p9 it.el.length k9) (.slice p10 it.bf.length k10) (.slice p11 it.af.length k11),.int .i64 d] Wb (tInt (fltI d it) Wb)) :=
    Lh fun n=>CallsIn.inRound l (callsIn_wide.2 (fault_any d hd it _ _ _ _ _ _ w.heap.size Wb (hv.kept (below_in hB0 hB2) (Nat.le_refl _)) hsb hnd.1 (HT.out.later hB2)))
   have BR2:=Lh bR2;have HB2:=Lh hB2;clear bR2 hB2 hnear;by_cases hf:fltI d it=0
   ·rw [hf] at FC;have HE:Hid (firstE (((bef++[(⟨d,B,it,.slice p4 it.e.args.length k4,.slice p7 it.ws.length k7,.slice p8 it.it.length k8,.slice p9 it.el.length k9,.slice p10 it.bf.length k10,.slice p11 it.af.length k11,mb,hd,hv⟩:Pn w.heap.size W0)]).map Pn.pl).map fltP)=0):=Lh (by rw [HMP.out];exact hf);clear hf
    gi_wp2_with (refine⟨trivial,?_⟩;gi_at_call 46;refine (FC.out _).mono ?_;rintro e w2 ⟨rfl,hb⟩;have bR3:=bxStay BR2.out hb;have HBc:=Lh hb;have BR3:=Lh bR3;clear hb bR3)
    exact⟨keepsFrom_below HBc.out,KeepC.of_below HBc.out,⟨⟨BR3.out,HE.out⟩,HB2.out.trans (HBc.out.mono hsb)⟩⟩
   ·have HE:Hid (firstE (((bef++[(⟨d,B,it,.slice p4 it.e.args.length k4,.slice p7 it.ws.length k7,.slice p8 it.it.length k8,.slice p9 it.el.length k9,.slice p10 it.bf.length k10,.slice p11 it.af.length k11,mb,hd,hv⟩:Pn w.heap.size W0)]).map Pn.pl).map fltP)=fltI d it):=Lh HMP.out;obtain⟨E,hE0⟩:∃ E,fltI d it=E:=⟨_,rfl⟩;rw [hE0] at FC HE hf;clear hE0;have hE:(E != 0)=true:=(by simpa using hf);have HNE:=Lh hf;clear hf
    gi_wp2_with (refine⟨trivial,?_⟩;gi_at_call 46;refine (FC.out _).mono ?_;rintro e w2 ⟨rfl,hb⟩;have bR3:=bxStay BR2.out hb;have cR:=bR3.cell;have fR:=bR3.frozen;have HBc:=Lh hb;have BR3:=Lh bR3;clear hb bR3)
    refine⟨(keepsFrom_below HBc.out).trans ((KeepsOthers.setCell _ _ _).from _),(KeepC.of_below HBc.out).set (Nat.le_refl _) (by omega) _,⟨?_,rfl,by rw [HE.out];exact HNE.out⟩,(HB2.out.trans (HBc.out.mono hsb)).setCell (p:=⟨w.heap.size,0,none⟩) (by simp) _⟩;rw [HE.out];exact BR3.out.set _
  case done =>
   rintro D zs W hD hzs ⟨⟨bR1,hf1⟩,hB1⟩ hK;have HV3:Hid (0=validI l0):=Lh (by rw [HV2.out];unfold firstV;rw [←hzs,hf1]);have HBW:=Lh hB1;have cR:=bR1.cell;have fR:=bR1.frozen;have HKD:=Lh hK;clear bR1 hf1 hzs hB1
   gi_wp2
   have hK':=(KeepsOthers.setCell W ⟨w.heap.size,0,none⟩ (.int .i64 0)).same D _ HKD.out rfl;refine⟨by simp,.inl ⟨_,_,rfl,run_takeDeferred hK',?_⟩⟩;have hc5:=cell_kept (World.cell?_setCell_same' W ⟨w.heap.size,0,none⟩ (.int .i64 0) (by rw [cR];rfl)) (grownBy_putObj' _ D (.deferred none)) (fun r e=>by cases e;exact⟨_,hK',rfl⟩);refine⟨.int .i64 0,?_,by rw [HV3.out],(HBW.out.setCell (p:=⟨w.heap.size,0,none⟩) (by simp) _).trans (belowK_b (w:=w) (Nat.le_refl _) _ D _ _ (by omega) hK' rfl rfl)⟩;simp [results,Tryz.results27,go_sem,hc5]
  case stop =>
   rintro D c bef W hD hpre ⟨⟨bR1,rfl,hne⟩,hB1⟩ hK;have HV3:Hid (firstE ((bef.map Pn.pl).map fltP)=validI l0):=Lh (by rw [HV2.out];unfold firstV;rw [first_of hpre rfl hne]);have HBW:=Lh hB1;have cR:=bR1.cell;clear bR1 hne hpre hB1
   gi_wp2
   refine⟨by simp,.inl ⟨_,_,rfl,run_takeDeferred hK,?_⟩⟩;have hc5:=cell_kept cR (grownBy_putObj' _ D (.deferred none)) (fun r e=>by cases e;exact⟨_,hK,rfl⟩);refine⟨.int .i64 (firstE ((bef.map Pn.pl).map fltP)),?_,by rw [HV3.out],HBW.out.trans (belowK_b (w:=w) (Nat.le_refl _) W D _ _ (by omega) hK rfl rfl)⟩;simp [results,Tryz.results27,go_sem,hc5]
end ItW
namespace CtW
open Go Go.RowKit Go.Shelf NumM LexW ExW ItW LexM ExM EtM EtW ItM CtM
open ClM (Fld fieldE)
open ClW (At RowA Lo CV)
def wrgB (l:List It):Bool:=!decide (validI l=0)
theorem valid_of {w0 W:World} {v:Value} {l:List It} (hx:ItsA w0.heap.size w0 v l) (hz:bzL l≤2000000) (ht:Tab w0) (hW:Below w0.heap.size w0 W):Calls Tryz.prog 27 #[v] W (tInt (validI l) W) :=
 itemValid_any l v W ((hx.under hW).wide hW.size) (by have:=iszs_bz l;omega) (rs_bz l hz) (ht.later hW)
theorem isWrong_any (w0:World) (nm:ByteArray) (l:List It) (v:Value) (hx:ItsA w0.heap.size w0 v l) (hz:bzL l≤2000000) (ht:Tab w0) (W:World) (hW:Below w0.heap.size w0 W) :
  Calls Tryz.prog 33 #[.agg #[.string nm,v]] W (tBool (wrgB l) W):=by
 have VC:Hid (∀ W2,Below w0.heap.size w0 W2→Calls Tryz.prog 27 #[v] W2 (tInt (validI l) W2)):=(Lh fun W2 h2=>valid_of hx hz ht h2);obtain⟨p,cap,_,rfl,_⟩:=hx.form;have F1:Bx (W.alloc (.cells #[.string nm,.slice p l.length cap] 57)) W.heap.size 57 [.string nm,.slice p l.length cap]:=Bx.new _ _ _;have HW1:=Lh (hW.then_ (ba W (.cells #[.string nm,.slice p l.length cap] 57)));have HB1:=Lh (ba W (.cells #[.string nm,.slice p l.length cap] 57));have HE:Hid (wrgB l = !decide (validI l=0)):=Lh rfl;rw [HE.out];have c1:=F1.blk.c 1 _ rfl;clear F1 hx hz ht hW HE;generalize validI l=E at *
 generalize l.length=n at *
 by_cases h:E=0
 ·subst h
  go_enter Tryz.func33,Tryz.ntmps33
  go_wp2_with (go_at_call 27;((with_reducible refine (VC.out _ HW1.out).mono ?_);rintro e w2 ⟨rfl,hb⟩;have HB2:=Lh (HB1.out.then_ hb);clear hb))
  go_ret;exact⟨rfl,HB2.out⟩
 ·have f1:(E != 0)=true:=(by simpa using h);have e1:(!decide (E=0))=true:=(by simpa using h);rw [e1];clear h e1
  go_enter Tryz.func33,Tryz.ntmps33
  go_wp2_with (go_at_call 27;((with_reducible refine (VC.out _ HW1.out).mono ?_);rintro e w2 ⟨rfl,hb⟩;have HB2:=Lh (HB1.out.then_ hb);clear hb))
  go_ret;exact⟨rfl,HB2.out⟩
theorem bks_ix (w0:World) (l:List (ByteArray × List It)) (v:Value) (W:World) (ha:BksA w0.heap.size w0 v l) (hz:∀ b∈l,bzL b.2≤2000000) (ht:Tab w0) (hW:Below w0.heap.size w0 W) :
  Calls Tryz.prog 59 #[v,.func (.func 33) #[] #[]] W fun e w'=>∃ r:Int,e=.returned (.int .i64 r)∧(-1≤r∧r≤140737488351232)∧decide (0≤r)=l.any (fun b=>wrgB b.2)∧Below W.heap.size W w':=by
 obtain⟨p,cap,V,rfl,hl,hc0,hi,hp⟩:=ha;have HP:=Lh hp;have HI:=Lh hi;have HZ:=Lh hz;have HT:=Lh ht;have HW:=Lh hW;obtain⟨K,hK⟩:∃ K,l.length=K:=⟨_,rfl⟩;have HK:=Lh hK;rw [hK] at hl ⊢;have hk:K≤140737488351232:=(by omega);clear hK hl hp hi hz ht hW;have HB0:=Lh (Below.refl W.heap.size W)
 go_enter Tryz.func59,Tryz.ntmps59
 go_wp2;go_loopw [8] (fun i wr=>∃ j:Nat,j≤K∧i=.int .i64 j∧Hid ((l.take j).any (fun b=>wrgB b.2)=false)∧Hid (Below W.heap.size W wr)) (fun i _=>K - (intOf i).toNat)
 case atStart=>exact⟨0,Nat.zero_le _,rfl,Lh rfl,HB0⟩
 case round =>
  obtain⟨j,hj,rfl,FN,BW⟩:=hrel;by_cases hlt:j<K
  ·obtain⟨c,hc⟩:∃ c,l[j]? = some c:=⟨_,List.getElem?_eq_getElem (by rw [HK.out];exact hlt)⟩;have hbw:Below w0.heap.size w0 wr:=HW.out.then_ BW.out;obtain⟨b,off,rfl,hb,hcell⟩:=HP.out (by rw [HK.out];omega);obtain⟨q0,q1⟩:=hcell j c hc;have c0:=low_cells hbw _ _ hb _ q0;have c1:=low_cells hbw _ _ hb _ q1;have CC:=Lh (isWrong_any w0 c.1 c.2 (V j) (HI.out j c hc).2 (HZ.out c (List.mem_of_getElem? hc)) HT.out wr hbw);obtain⟨pi,ci,_,ei,_⟩:=(HI.out j c hc).2.form;rw [ei] at c1 CC;clear hcell q0 q1 ei;have HC:=Lh hc;clear hc hbw;cases hs:wrgB c.2
   ·have FN2:=Lh (any_next (q:=fun b:ByteArray × List It=>wrgB b.2) HC.out hs FN.out);rw [hs] at CC;clear hs;generalize c.2.length=nc at *
    generalize c.1=nm at *
    go_wp2_with (go_at_call 33;((with_reducible refine CC.out.mono ?_);rintro e w1 ⟨rfl,hb1⟩;have HB1:=Lh (BW.out.then_ hb1);clear hb1))
    go_roundw
    case rel=>exact⟨j+1,by omega,by go_num,FN2,HB1⟩
    case measure=>simp [intOf];omega
   ·have FS:=Lh (any_at (q:=fun b:ByteArray × List It=>wrgB b.2) HC.out hs);rw [hs] at CC;clear hs;generalize c.2.length=nc at *
    generalize c.1=nm at *
    go_wp2_with (go_at_call 33;((with_reducible refine CC.out.mono ?_);rintro e w1 ⟨rfl,hb1⟩;have HB1:=Lh (BW.out.then_ hb1);clear hb1))
    go_ret;exact⟨_,rfl,by omega,by rw [FS.out];exact decide_eq_true (by omega),HB1.out⟩
  ·have FN2:Hid (l.any (fun b=>wrgB b.2)=false):=Lh (by have:=FN.out;rw [List.take_of_length_le (by rw [HK.out];omega)] at this;exact this);go_wp2;go_ret;exact⟨_,rfl,by omega,by rw [FN2.out];rfl,BW.out⟩
theorem bks_has (w0:World) (l:List (ByteArray × List It)) (v:Value) (W:World) (ha:BksA w0.heap.size w0 v l) (hz:∀ b∈l,bzL b.2≤2000000) (ht:Tab w0) (hW:Below w0.heap.size w0 W) :
  Calls Tryz.prog 32 #[v,.func (.func 33) #[] #[]] W (tBool (l.any (fun b=>wrgB b.2)) W):=by
 have IC:=Lh (bks_ix w0 l v W ha hz ht hW);obtain⟨p,cap,_,rfl,_⟩:=ha;clear hz ht hW;generalize l.any (fun b=>wrgB b.2)=c at *
 generalize l.length=K at *
 cases c
 all_goals
  go_enter Tryz.func32,Tryz.ntmps32
  go_wp2_with (go_at_call 59;((with_reducible refine IC.out.mono ?_);rintro e w1 ⟨r,rfl,⟨hr0,hr1⟩,hr,hb⟩;have HB:=Lh hb;clear hb))
  go_ret;exact⟨rfl,HB.out⟩
theorem fl_take {fs:List Fld} {j:Nat} {f:Fld} (h:fs[j]? = some f):txL ((fs.take (j+1)).map (fun f=>bl 1++fldL f))=txL ((fs.take j).map (fun f=>bl 1++fldL f))++(bl 1++(fldL f++[10])):=by
 obtain⟨hj,he⟩:=List.getElem?_eq_some_iff.1 h;rw [List.take_succ_eq_append_getElem hj,List.map_append,txL_app,he,List.map_cons,List.map_nil,txL_cons,txL_nil];simp
theorem fl_le (fs:List Fld) (j:Nat):(txL ((fs.take j).map (fun f=>bl 1++fldL f))).length≤(txL (fs.map (fun f=>bl 1++fldL f))).length:=by
 have e:fs=fs.take j++fs.drop j:=(List.take_append_drop j fs).symm
 conv=>rhs;rw [e,List.map_append,txL_app]
 rw [List.length_append];omega
theorem bk_tx (b:ByteArray × List It):txL (blkL b)=(bl 1++(blkH b.1++[10]))++(txL (liL 2 b.2)++(bl 1++[125,10])):=by
 unfold blkL;rw [txL_cons,txL_app,txL_cons,txL_nil];simp
theorem bk_take {bs:List (ByteArray × List It)} {j:Nat} {b:ByteArray × List It} (h:bs[j]? = some b):txL ((bs.take (j+1)).flatMap blkL)=txL ((bs.take j).flatMap blkL)++txL (blkL b):=by
 obtain⟨hj,he⟩:=List.getElem?_eq_some_iff.1 h;rw [List.take_succ_eq_append_getElem hj,List.flatMap_append,txL_app,he,List.flatMap_cons,List.flatMap_nil,List.append_nil]
theorem bk_le (bs:List (ByteArray × List It)) (j:Nat):(txL ((bs.take j).flatMap blkL)).length≤(txL (bs.flatMap blkL)).length:=by
 have e:bs=bs.take j++bs.drop j:=(List.take_append_drop j bs).symm
 conv=>rhs;rw [e,List.flatMap_append,txL_app]
 rw [List.length_append];omega
theorem cls_tx (k:Kl):clsT k=(clsH k++[10])++(txL (k.fs.map (fun f=>bl 1++fldL f))++(txL (k.bs.flatMap blkL)++[125,10])):=by
 unfold clsT clsL;rw [txL_cons,txL_app,txL_app,txL_cons,txL_nil];simp
theorem class_any (w0:World) (k:Kl) (pf:Option Addr) (cf:Nat) (pk:Option Addr) (ck:Nat) (hx:KA w0.heap.size w0 pf cf pk ck k) (hv:VK k) (hi64:∀ b∈k.bs,iszs b.2≤64) (hz:∀ b∈k.bs,bzL b.2≤2000000) (ht:TabE w0)
  (B pb:Nat) (t:List UInt8) (W:World) (st:St w0 B pb t W) (hl:t.length+(clsT k).length≤140737488000000) :
  Calls Tryz.prog 34 #[.pointer (some ⟨pb,0,none⟩),.agg #[.string k.nm,.string k.par,.slice pf k.fs.length cf,.slice pk k.bs.length ck]] W (tPg B pb (t++clsT k) (.tuple #[]) W):=by
 rw [cls_tx] at hl ⊢;have HV:=Lh hv;have HX:=Lh hx;have HI:=Lh hi64;have HZ:=Lh hz;have HT:=Lh ht;have hnm:=nm16 hv.nm;have hpar:k.par.size≤16:=(by rcases hv.par with h | h;(· omega);(· exact nm16 h));have PT:Hid (∀ W2,Calls Tryz.prog 61 #[.string k.par] W2 fun e w'=>e=.returned (.string (mb (parT k.par)))∧w'=W2):=(Lh fun W2=>(parentText_any k.par W2 (by omega)).mono fun _ _ h=>⟨h.1,h.2.symm⟩);have hH:clsH k=classW++32::(nmT k.nm++(parT k.par++[32,123])):=rfl;have hpl:(parT k.par).length≤25:=by
  unfold parT;split
  ·simp
  ·simp [extendsW,nmT_len];omega
 have hHl:(clsH k).length≤60:=(by rw [hH];simp [classW,nmT_len];omega);simp only [List.length_append,List.length_cons,List.length_nil] at hl;obtain⟨t1,ht1⟩:∃ x,x=t++(clsH k++[10]):=⟨_,rfl⟩;have l1:t1.length=t.length+(clsH k).length+1:=(by rw [ht1];simp;omega);have HL1:Hid (∀ W2,St w0 B pb t W2→Calls Tryz.prog 60 #[.pointer (some ⟨pb,0,none⟩),.int .i64 0,.slice (some ⟨W2.heap.size,0,none⟩) 4 4] (W2.alloc (.cells #[.string ⟨#[99,108,97,115,115,32]⟩,.string k.nm,.string (mb (parT k.par)),.string ⟨#[32,123]⟩] 9)) (tPg B pb t1 (.tuple #[]) W2)):=Lh fun W2 h=>by
  have hc:(cat [⟨#[99,108,97,115,115,32]⟩,k.nm,(mb (parT k.par)),⟨#[32,123]⟩]).length=(clsH k).length:=(by rw [hH];simp [cat,nmT,classW]<;>omega);have h1:=line_new w0 B pb 0 4 t [⟨#[99,108,97,115,115,32]⟩,k.nm,(mb (parT k.par)),⟨#[32,123]⟩] W2 h (by decide) rfl (by decide) (by rw [hc];omega);have h2:t++(bl 0++(cat [⟨#[99,108,97,115,115,32]⟩,k.nm,(mb (parT k.par)),⟨#[32,123]⟩]++[10]))=t1:=(by rw [ht1,hH];simp [cat,nmT,classW,bl]);rw [h2] at h1;exact h1
 have HL1d:Hid (∀ W2,St w0 B pb t W2→Calls Tryz.prog 60 #[.pointer (some ⟨pb,0,none⟩),.int .i64 0,.slice (some ⟨W2.heap.size,0,none⟩) 4 4] (W2.alloc (.cells #[.string ⟨#[99,108,97,115,115,32]⟩,.string k.nm,.string (mb (parT k.par)),.string ⟨#[32,123]⟩] 9)).drew (tPg B pb t1 (.tuple #[]) W2.drew)):=(Lh fun W2 h=>HL1.out W2.drew h.drew);obtain⟨FT,hFT⟩:∃ x,x=txL (k.fs.map (fun f=>bl 1++fldL f)):=⟨_,rfl⟩;obtain⟨BT,hBT⟩:∃ x,x=txL (k.bs.flatMap blkL):=⟨_,rfl⟩;rw [←hFT,←hBT] at hl ⊢;have HFT:=Lh hFT;have HBT:=Lh hBT;obtain⟨nf,hnf⟩:∃ n,k.fs.length=n:=⟨_,rfl⟩;obtain⟨nk,hnk⟩:∃ n,k.bs.length=n:=⟨_,rfl⟩;have HNF:=Lh hnf;have HNK:=Lh hnk;have hnf47:nf≤140737488351232:=by
  obtain⟨_,_,_,h1,h2⟩:=hx.fs.rowOf;have:=h2.hl;rw [List.length_map,hnf] at this;simp [ClM.byt] at this;omega
 have hnk47:nk≤140737488351232:=(by obtain⟨_,_,_,_,h1,_⟩:=hx.bs;omega);rw [hnf,hnk];have hlt:t1.length+FT.length+BT.length+2≤140737488000000:=(by omega);have HF4:Hid (t++((clsH k++[10])++(FT++(BT++[125,10])))=t1++FT++BT++[125,10]):=Lh (by rw [ht1];simp);rw [HF4.out];obtain⟨nm,enm⟩:∃ x,k.nm=x:=⟨_,rfl⟩;obtain⟨par,epar⟩:∃ x,k.par=x:=⟨_,rfl⟩;rw [enm] at HL1 HL1d ⊢;rw [epar] at PT HL1 HL1d ⊢;have F1:Bx (W.alloc (.cells #[.string nm,.string par,.slice pf nf cf,.slice pk nk ck] 32)) W.heap.size 32 [.string nm,.string par,.slice pf nf cf,.slice pk nk ck]:=Bx.new _ _ _;have HGP:W.heap.size≠pb:=(by have:=st.pg.lt;omega);have S0:=st.stay (ba W (.cells #[.string nm,.string par,.slice pf nf cf,.slice pk nk ck] 32));have KW:=(Kp.refl B pb W).below st.hB (ba W (.cells #[.string nm,.string par,.slice pf nf cf,.slice pk nk ck] 32));obtain⟨W0,hW0⟩:∃ W0,W.alloc (.cells #[.string nm,.string par,.slice pf nf cf,.slice pk nk ck] 32)=W0:=⟨_,rfl⟩;rw [hW0] at F1 S0 KW;have HF:=Lh F1;have SX:=Lh S0;have KX:=Lh (Kp.refl B pb W0);have HKW:=Lh KW;have hlt0:=F1.blk.lt;have c0:=F1.blk.c 0 _ rfl;have c1:=F1.blk.c 1 _ rfl;have c2:=F1.blk.c 2 _ rfl;have c3:=F1.blk.c 3 _ rfl;have HLT:=Lh hlt;clear F1 S0 KW st hx hv hi64 hz ht hl hH hpl hHl l1 ht1 hFT hBT hnf hnk enm epar hnm hpar hlt
 go_enter Tryz.func34,Tryz.ntmps34
 go_wp2
 go_upto_region 2 with fail
 go_cut [] (fun wx=>Hid (St w0 B pb t1 wx)∧Hid (Kp B pb W0 wx))
 case first =>
  go_region_law (go_simp;first
   |(go_at_call 61;((with_reducible refine (PT.out _).mono ?_);rintro e w2 ⟨rfl,rfl⟩))
   |(go_at_call 60;((first | (with_reducible refine (HL1.out _ SX.out).mono ?_) | (with_reducible refine (HL1d.out _ SX.out).mono ?_));rintro e w3 ⟨rfl,hp,hk3⟩;have SY:Hid (St w0 B pb t1 w3):=Lh (by first | exact SX.out.next hp hk3 | exact SX.out.drew.next hp hk3);have KY:Hid (Kp B pb W0 w3):=Lh (by first | exact KX.out.trans hk3 | exact (KX.out.drew SX.out.hB).trans hk3);clear hp hk3)))
  all_goals
   go_wp2_with fail
   go_meet
   exact⟨SY,KY⟩
 case rest =>
  obtain⟨SY,KY⟩:=hcut;clear SX KX;have SX:=SY;have KX:=KY;clear SY KY
  (try clear c0 c1 c2 c3);have X:=(HF.out.kp KX.out HGP (by decide)).blk;have c0:=X.c 0 _ rfl;have c1:=X.c 1 _ rfl;have c2:=X.c 2 _ rfl;have c3:=X.c 3 _ rfl;clear X
  go_wp2;go_loopw [19] (fun i wr=>∃ j:Nat,j≤nf∧i=.int .i64 j∧Hid (St w0 B pb (t1++txL ((k.fs.take j).map (fun f=>bl 1++fldL f))) wr)∧Hid (Kp B pb W0 wr)) (fun i _=>nf - (intOf i).toNat)
  case atStart=>exact⟨0,Nat.zero_le _,rfl,Lh (by rw [List.take_zero,List.map_nil,txL_nil,List.append_nil];exact SX.out),KX⟩
  case round =>
   obtain⟨j,hj,rfl,SW,KZ⟩:=hrel;clear c0 c1 c2 c3;by_cases hlt:j<nf
   ·obtain⟨f,hf⟩:∃ f,k.fs[j]? = some f:=⟨_,List.getElem?_eq_getElem (by rw [HNF.out];exact hlt)⟩;obtain⟨_,_,_,ef,rf⟩:=HX.out.fs.rowOf;obtain⟨b,off,ep,hb,q0,q1,q2,q3,q4,_⟩:=rf.fd hf;obtain⟨rfl,_⟩:pf=some ⟨b,off,none⟩∧True:=⟨by rw [←ep];simp at ef;exact ef.1,trivial⟩;have hlow:=low_cells SW.out.low;have d0:=hlow _ _ hb _ q0;have d1:=hlow _ _ hb _ q1;have d2:=hlow _ _ hb _ q2;have d3:=hlow _ _ hb _ q3;have d4:=hlow _ _ hb _ q4;have hfe:=HV.out.fs f (List.mem_of_getElem? hf);have FTC:Hid (∀ W2,Below w0.heap.size w0 W2→Calls Tryz.prog 62 #[.agg #[.string f.nm,.int .i64 f.wd,.int .i64 f.sz,.int .i64 f.md,.int .i64 f.ini]] W2 (tS (fldL f) W2)):=(Lh fun W2 h2=>fieldText_any f hfe W2 (HT.out.later h2).pow);have TK:=fl_take hf;have hle:=fl_le k.fs (j+1);rw [TK,←HFT.out] at hle;simp only [List.length_append,List.length_cons,List.length_nil] at hle;have hLT:=HLT.out;obtain⟨L,hL⟩:∃ x,fldL f=x:=⟨_,rfl⟩;obtain⟨tj,htj⟩:∃ x,t1++txL ((k.fs.take j).map (fun f=>bl 1++fldL f))=x:=⟨_,rfl⟩;have ltj:tj.length=t1.length+(txL ((k.fs.take j).map (fun f=>bl 1++fldL f))).length:=(by rw [←htj];simp);have HTK:Hid (t1++txL ((k.fs.take (j+1)).map (fun f=>bl 1++fldL f))=tj++(bl 1++(L++[10]))):=Lh (by rw [TK,←htj,hL,List.append_assoc]);rw [hL] at FTC hle;rw [htj] at SW;have LC:Hid (∀ W2,St w0 B pb tj W2→Calls Tryz.prog 60 #[.pointer (some ⟨pb,0,none⟩),.int .i64 1,.slice (some ⟨W2.heap.size,0,none⟩) 1 1] (W2.alloc (.cells #[.string (mb L)] 9)) (tPg B pb (tj++(bl 1++(L++[10]))) (.tuple #[]) W2)):=Lh fun W2 h=>by
     have hc:(cat [(mb L)]).length=L.length:=(by simp [cat,nmT]);have h1:=line_new w0 B pb 1 1 tj [(mb L)] W2 h (by decide) rfl (by decide) (by rw [hc];have:=bl_len 1;omega);have h2:cat [(mb L)]=L:=(by simp [cat,nmT]);rw [h2] at h1;exact h1
    clear hf rf ef q0 q1 q2 q3 q4 hlow hfe TK hle hLT ltj htj hL ep;have SX:=SW;have KX:=KZ;generalize f.nm=fn at *
    generalize f.wd=fw at *
    generalize f.sz=fz at *
    generalize f.md=fm at *
    generalize f.ini=fi at *
    have X1:=Lh (SX.out.stay (ba wr (.cells #[.string fn,.int .i64 fw,.int .i64 fz,.int .i64 fm,.int .i64 fi] 55)));have Y1:=Lh (KX.out.below SX.out.hB (ba wr (.cells #[.string fn,.int .i64 fw,.int .i64 fz,.int .i64 fm,.int .i64 fi] 55)));have G1:Bx (wr.alloc (.cells #[.string fn,.int .i64 fw,.int .i64 fz,.int .i64 fm,.int .i64 fi] 55)) wr.heap.size 55 [.string fn,.int .i64 fw,.int .i64 fz,.int .i64 fm,.int .i64 fi]:=Bx.new _ _ _;have x0:=G1.blk.c 0 _ rfl;have x1:=G1.blk.c 1 _ rfl;have x2:=G1.blk.c 2 _ rfl;have x3:=G1.blk.c 3 _ rfl;have x4:=G1.blk.c 4 _ rfl;clear G1;go_wp2_with (first
     |(go_at_call 62;((with_reducible refine (FTC.out _ X1.out.low).mono ?_);rintro e w2 ⟨rfl,hb⟩;have Y2:=Lh (Y1.out.below X1.out.hB hb);have X2:=Lh (X1.out.stay hb);clear hb x0 x1 x2 x3 x4))
     |(go_at_call 60;((with_reducible refine (LC.out _ X2.out).mono ?_);rintro e w3 ⟨rfl,hp,hk3⟩;have X3:=Lh (X2.out.next hp hk3);have Y3:=Lh (Y2.out.trans hk3);clear hp hk3)))
    go_roundw
    case rel=>exact⟨j+1,by omega,by go_num,by rw [HTK.out];exact X3,Y3⟩
    case measure=>simp [intOf];omega
   ·obtain rfl:j=nf:=(by omega);have SX:Hid (St w0 B pb (t1++FT) wr):=Lh (by have:=SW.out;rw [List.take_of_length_le (by rw [HNF.out];exact Nat.le_refl _),←HFT.out] at this;exact this);have KX:=KZ;clear SW KZ
    (try clear c0 c1 c2 c3);have X:=(HF.out.kp KX.out HGP (by decide)).blk;have c0:=X.c 0 _ rfl;have c1:=X.c 1 _ rfl;have c2:=X.c 2 _ rfl;have c3:=X.c 3 _ rfl;clear X
    go_wp2;obtain⟨wo,hwo⟩:∃ x,x=wr:=⟨_,rfl⟩;subst hwo;go_loopw [32] (fun i wr=>∃ j:Nat,j≤nk∧i=.int .i64 j∧Hid (St w0 B pb (t1++FT++txL ((k.bs.take j).flatMap blkL)) wr)∧Hid (Kp B pb W0 wr)) (fun i _=>nk - (intOf i).toNat)
    case atStart=>exact⟨0,Nat.zero_le _,rfl,Lh (by rw [List.take_zero,List.flatMap_nil,txL_nil,List.append_nil];exact SX.out),KX⟩
    case round =>
     obtain⟨j2,hj2,rfl,SW,KZ⟩:=hrel;clear c0 c1 c2 c3 SX KX;by_cases hlt2:j2<nk
     ·obtain⟨b,hbk⟩:∃ b,k.bs[j2]? = some b:=⟨_,List.getElem?_eq_getElem (by rw [HNK.out];exact hlt2)⟩;have hmem:=List.mem_of_getElem? hbk;obtain⟨_,_,V,ef,_,_,hI,hcell⟩:=HX.out.bs;obtain⟨g,off,ep,hg,hcel⟩:=hcell (by rw [HNK.out];omega);obtain⟨rfl,_⟩:pk=some ⟨g,off,none⟩∧True:=⟨by rw [←ep];simp at ef;exact ef.1,trivial⟩;obtain⟨q0,q1⟩:=hcel j2 b hbk;obtain⟨hbn,hbi⟩:=hI j2 b hbk;have hlow:=low_cells SW.out.low;have d0:=hlow _ _ hg _ q0;have d1:=hlow _ _ hg _ q1;obtain⟨pi,ci,_,ei,_⟩:=hbi.form;rw [ei] at d1 hbi;have hvb:=HV.out.bs b hmem;have h16:=nm16 hvb.1;have hz2:=HZ.out b hmem;have hi2:=HI.out b hmem;have TK:=bk_take hbk;have hle:=bk_le k.bs (j2+1);rw [TK,←HBT.out,bk_tx] at hle;simp only [List.length_append,List.length_cons,List.length_nil] at hle;have hLT:=HLT.out;obtain⟨tj,htj⟩:∃ x,t1++FT++txL ((k.bs.take j2).flatMap blkL)=x:=⟨_,rfl⟩;have ltj:tj.length=t1.length+FT.length+(txL ((k.bs.take j2).flatMap blkL)).length:=(by rw [←htj,List.length_append,List.length_append]);obtain⟨ta,hta⟩:∃ x,x=tj++(bl 1++(blkH b.1++[10])):=⟨_,rfl⟩;have lta:ta.length=tj.length+((bl 1).length+((blkH b.1).length+1)):=(by rw [hta];simp);obtain⟨I,hIx⟩:∃ x,txL (liL 2 b.2)=x:=⟨_,rfl⟩;obtain⟨tb,htb⟩:∃ x,x=ta++I:=⟨_,rfl⟩;have ltb:tb.length=ta.length+I.length:=(by rw [htb];simp);obtain⟨tc,htc⟩:∃ x,x=tb++(bl 1++[125,10]):=⟨_,rfl⟩;have HTK:Hid (t1++FT++txL ((k.bs.take (j2+1)).flatMap blkL)=tc):=Lh (by rw [TK,bk_tx,htc,htb,hta,←htj,←hIx];simp);rw [hIx] at hle;rw [htj] at SW;have bk:blkH b.1=constraintW++32::(nmT b.1++[32,123]):=rfl;have LC1:Hid (∀ W2,St w0 B pb tj W2→Calls Tryz.prog 60 #[.pointer (some ⟨pb,0,none⟩),.int .i64 1,.slice (some ⟨W2.heap.size,0,none⟩) 3 3] (W2.alloc (.cells #[.string ⟨#[99,111,110,115,116,114,97,105,110,116,32]⟩,.string b.1,.string ⟨#[32,123]⟩] 9)) (tPg B pb ta (.tuple #[]) W2)):=Lh fun W2 h=>by
       have hc:(cat [⟨#[99,111,110,115,116,114,97,105,110,116,32]⟩,b.1,⟨#[32,123]⟩]).length=(blkH b.1).length:=(by rw [bk];simp [cat,nmT,constraintW]<;>omega);have h1:=line_new w0 B pb 1 3 tj [⟨#[99,111,110,115,116,114,97,105,110,116,32]⟩,b.1,⟨#[32,123]⟩] W2 h (by decide) rfl (by decide) (by rw [hc];have:=bl_len 1;omega);have h2:tj++(bl 1++(cat [⟨#[99,111,110,115,116,114,97,105,110,116,32]⟩,b.1,⟨#[32,123]⟩]++[10]))=ta:=(by rw [hta,bk];simp [cat,nmT,constraintW]);rw [h2] at h1;exact h1
      have IC1:Hid (∀ W2,St w0 B pb ta W2→Calls Tryz.prog 28 #[.pointer (some ⟨pb,0,none⟩),.slice pi b.2.length ci,.int .i64 2] W2 (tPg B pb tb (.tuple #[]) W2)):=Lh fun W2 h=>by
       have h1:=items_any w0 HT.out b.2 _ B pb 2 ta W2 h hbi (by omega) (by rw [hIx];omega) hvb.2 (rs_bz _ hz2);rw [hIx,←htb] at h1;exact h1
      have LC2:Hid (∀ W2,St w0 B pb tb W2→Calls Tryz.prog 60 #[.pointer (some ⟨pb,0,none⟩),.int .i64 1,.slice (some ⟨W2.heap.size,0,none⟩) 1 1] (W2.alloc (.cells #[.string ⟨#[125]⟩] 9)) (tPg B pb tc (.tuple #[]) W2)):=Lh fun W2 h=>by
       have hc:(cat [⟨#[125]⟩]).length=1:=(by simp [cat,nmT]);have h1:=line_new w0 B pb 1 1 tb [⟨#[125]⟩] W2 h (by decide) rfl (by decide) (by rw [hc];have:=bl_len 1;omega);have h2:tb++(bl 1++(cat [⟨#[125]⟩]++[10]))=tc:=(by rw [htc];simp [cat,nmT]);rw [h2] at h1;exact h1
      clear hbk hmem ef hI hcell hcel q0 q1 hbn hbi hlow ei hvb h16 hz2 hi2 TK hle hLT ltj lta ltb htj hta htb htc hIx bk ep;generalize b.1=bn at *
      generalize b.2.length=nb at *
      have X1:=Lh (SW.out.stay (ba wr (.cells #[.string bn,.slice pi nb ci] 57)));have Y1:=Lh ((Kp.refl B pb wr).below SW.out.hB (ba wr (.cells #[.string bn,.slice pi nb ci] 57)));have G1:Bx (wr.alloc (.cells #[.string bn,.slice pi nb ci] 57)) wr.heap.size 57 [.string bn,.slice pi nb ci]:=Bx.new _ _ _;have HGQ:wr.heap.size≠pb:=(by have:=SW.out.pg.lt;omega);obtain⟨W1,hW1⟩:∃ W1,wr.alloc (.cells #[.string bn,.slice pi nb ci] 57)=W1:=⟨_,rfl⟩;rw [hW1] at G1 X1 Y1;have HG:=Lh G1;have hlt1:=G1.blk.lt;have SX:=X1;have KX:=Lh (Kp.refl B pb W1);have x0:=G1.blk.c 0 _ rfl;have x1:=G1.blk.c 1 _ rfl;clear G1;go_wp2_with (first
       |(go_at_call 60;((with_reducible refine (LC1.out _ SX.out).mono ?_);rintro e w3 ⟨rfl,hp,hk3⟩;have SX:=Lh (SX.out.next hp hk3);have KX:=Lh (KX.out.trans hk3);clear x0 x1;have X:=(HG.out.kp KX.out HGQ (by decide)).blk;have x0:=X.c 0 _ rfl;have x1:=X.c 1 _ rfl;clear X hp hk3))
       |(go_at_call 28;((with_reducible refine (IC1.out _ SX.out).mono ?_);rintro e w3 ⟨rfl,hp,hk3⟩;have SX:=Lh (SX.out.next hp hk3);have KX:=Lh (KX.out.trans hk3);clear x0 x1 hp hk3))
       |(go_at_call 60;((with_reducible refine (LC2.out _ SX.out).mono ?_);rintro e w3 ⟨rfl,hp,hk3⟩;have SX:=Lh (SX.out.next hp hk3);have KX:=Lh (KX.out.trans hk3);clear hp hk3)))
      go_roundw
      case rel=>exact⟨j2+1,by omega,by go_num,by rw [HTK.out];exact SX,Lh (KZ.out.trans (Y1.out.trans KX.out))⟩
      case measure=>simp [intOf];omega
     ·obtain rfl:j2=nk:=(by omega);have SX:Hid (St w0 B pb (t1++FT++BT) wr):=Lh (by have:=SW.out;rw [List.take_of_length_le (by rw [HNK.out];exact Nat.le_refl _),←HBT.out] at this;exact this);have LCZ:Hid (∀ W2,St w0 B pb (t1++FT++BT) W2→Calls Tryz.prog 60 #[.pointer (some ⟨pb,0,none⟩),.int .i64 0,.slice (some ⟨W2.heap.size,0,none⟩) 1 1] (W2.alloc (.cells #[.string ⟨#[125]⟩] 9)) (tPg B pb (t1++FT++BT++[125,10]) (.tuple #[]) W2)):=Lh fun W2 h=>by
       have hLT:=HLT.out;have hc:(cat [⟨#[125]⟩]).length=1:=(by simp [cat,nmT]);have h1:=line_new w0 B pb 0 1 (t1++FT++BT) [⟨#[125]⟩] W2 h (by decide) rfl (by decide) (by rw [hc];simp only [List.length_append];omega);have h2:t1++FT++BT++(bl 0++(cat [⟨#[125]⟩]++[10]))=t1++FT++BT++[125,10]:=(by simp [cat,nmT,bl]);rw [h2] at h1;exact h1
      go_wp2_with (go_at_call 60;((with_reducible refine (LCZ.out _ SX.out).mono ?_);rintro e w3 ⟨rfl,hp,hk3⟩;have HP:=Lh hp;have HK:=Lh (HKW.out.trans (KZ.out.trans hk3));clear hp hk3))
      go_end0
      exact⟨rfl,HP.out,HK.out⟩
end CtW
namespace ClM
open Go LexM
structure Val (c:Cl):Prop where
 nm:bad c.nm=false
 par:c.par=emp∨bad c.par=false
 lg:large c=false
 fs:∀ f∈c.fs,fieldE f=0
 bs:∀ b∈c.bs,bad b.nm=false
 df:(c.fs.map Fld.nm).Nodup
 db:(c.bs.map Bk.nm).Nodup
theorem validE_zero {c:Cl}:validE c=0↔Val c:=by
 unfold validE;constructor
 ·intro h;split at h
  ·cases h
  ·rename_i h1;split at h
   ·cases h
   ·rename_i h2;split at h
    ·rename_i h3;exact absurd h h3
    ·rename_i h3;split at h
     ·cases h
     ·rename_i h4;split at h
      ·cases h
      ·rename_i h5;simp only [Bool.or_eq_true,Bool.and_eq_true,Bool.not_eq_true',not_or,not_and,Bool.not_eq_true] at h1 h5;refine⟨h1.1,?_,by simpa using h2,fun f hf=>?_,fun b hb=>?_,dupB_iff.1 h5.1,dupB_iff.1 h5.2⟩
       ·cases hs:same c.par emp
        ·exact .inr (h1.2 hs)
        ·exact .inl (same_iff.1 hs)
       ·exact firstE_zero.1 (Classical.byContradiction h3) _ (List.mem_map_of_mem hf)
       ·have:=h4;rw [Bool.not_eq_true,List.any_eq_false] at this
        simpa using this b hb
 ·rintro ⟨h1,h2,h3,h4,h5,h6,h7⟩;rw [if_neg,if_neg,if_neg,if_neg,if_neg]
  ·rw [Bool.not_eq_true,Bool.or_eq_false_iff];exact⟨dupB_iff.2 h6,dupB_iff.2 h7⟩
  ·rw [Bool.not_eq_true,List.any_eq_false];intro b hb;simp [h5 b hb]
  ·rw [Classical.not_not,firstE_zero];intro e he;obtain⟨f,hf,rfl⟩:=List.mem_map.1 he;exact h4 f hf
  ·rw [h3];simp
  ·rw [Bool.not_eq_true,Bool.or_eq_false_iff];refine⟨h1,?_⟩;rcases h2 with h2 | h2
   ·rw [h2,same_rfl];rfl
   ·rw [h2];simp
end ClM
namespace CtW
open Go Go.RowKit Go.Shelf NumM LexW ExW ItW LexM ExM EtM EtW ItM CtM
open ClM (Fld fieldE validE validE_zero Val bad emp)
open ClW (At RowA Lo CV valid_any)
theorem li_len {l:List It} (h:validI l=0) (hz:bzL l≤2000000) {k:Nat} (hk:k≤36):(txL (liL k l)).length≤200000000:=by
 obtain⟨hv,h64⟩:=valid_vl h;have:=li_le l k 100 hv (by omega);have h2:iszs l*(12*100+100)≤64*1300:=Nat.mul_le_mul h64 (Nat.le_refl _);omega
theorem st_new {w0 W:World} (hW:Below w0.heap.size w0 W):St w0 W.heap.size W.heap.size [] (W.alloc (.cells #[.pointer none,.slice none 0 0] 63)) :=
 ⟨hW.size,hW.then_ (ba _ _),by simp,Pg.new W⟩
def okK (k:Kl):Bool:=decide (validE (clOf k)=0)&&!k.bs.any (fun b=>wrgB b.2)
def klT (k:Kl):List UInt8:=if okK k=true then clsT k else []
def bzK (k:Kl):Nat:=(k.bs.map (fun b=>bzL b.2)).sum
theorem sum_mem:∀ {l:List Nat} {a:Nat},a∈l→a≤l.sum
 | [],_,h=>nomatch h
 | b::r,a,h=>by
  rw [List.sum_cons];rcases List.mem_cons.1 h with rfl | h
  ·omega
  ·have:=sum_mem h;omega
theorem bzK_mem {k:Kl} {b:ByteArray × List It} (h:b∈k.bs):bzL b.2≤bzK k:=by
 unfold bzK;have:bzL b.2∈k.bs.map (fun b=>bzL b.2):=List.mem_map.2 ⟨b,h,rfl⟩;exact sum_mem this
theorem bad_nm {s:ByteArray} (h:bad s=false):nmB (nmT s)=true:=by
 show nmB s.data.toList=true;unfold bad at h
 simpa using h
theorem okK_vk {k:Kl} (h:okK k=true):VK k∧k.fs.length≤16∧k.bs.length≤16∧∀ b∈k.bs,validI b.2=0:=by
 unfold okK at h;rw [Bool.and_eq_true,Bool.not_eq_true',decide_eq_true_eq] at h;obtain⟨h1,h2⟩:=h;have hv:=validE_zero.1 h1;have hb:∀ b∈k.bs,validI b.2=0:=fun b hb=>by
  have:=List.any_eq_false.1 h2 b hb;unfold wrgB at this
  simpa using this
 have hlg:=hv.lg;unfold ClM.large at hlg;simp only [Bool.or_eq_false_iff,decide_eq_false_iff_not,Nat.not_lt] at hlg;refine⟨⟨bad_nm hv.nm,?_,hv.fs,fun b hm=>⟨bad_nm (hv.bs (bkOf b) (List.mem_map.2 ⟨b,hm,rfl⟩)),(valid_vl (hb b hm)).1⟩⟩,hlg.1,by have:=hlg.2;simpa [clOf] using this,hb⟩;rcases hv.par with h | h
 ·left;have:k.par=emp:=h;rw [this];rfl
 ·exact .inr (bad_nm h)
theorem fld_len {f:Fld} (h:fieldE f=0):(fldL f).length≤120:=by
 obtain⟨a1,a2,a3,a4,a5,a6⟩:=fld_ok h;have h1:=nm16 a1;have h2:=mdW_le f.md;have h3:(mdW f.md).length≤5:=h2;have hini:f.ini≤255:=by
  unfold fieldE at h;split at h
  ·cases h
  ·split at h
   ·rename_i ho;unfold ClM.okF at ho;simp only [decide_eq_true_eq] at ho;obtain⟨h1,h2,h3,h4,h5,h6,_,h7,h8⟩:=ho;unfold ClM.maxI at h8;split at h8
    ·have h10:(2:Int) ^ f.wd.toNat≤2 ^ 8:=by
      have:=Nat.pow_le_pow_right (show 0<2 by decide) (show f.wd.toNat≤8 by omega)
      exact_mod_cast this
     omega
    ·omega
   ·cases h
 have z1:(Lib.itoa f.wd).length≤21:=itoa_le ⟨by omega,by omega⟩;have z2:(Lib.itoa f.sz).length≤21:=itoa_le ⟨by omega,by omega⟩;have z3:(Lib.itoa f.ini).length≤21:=itoa_le ⟨by omega,by omega⟩;have g1:(if 0<f.sz then 91::(Lib.itoa f.sz++[93]) else ([]:List UInt8)).length≤23:=by
  split
  ·simp;omega
  ·simp
 have g2:(if f.md=0 then 32::61::32::Lib.itoa f.ini else ([]:List UInt8)).length≤24:=by
  split
  ·simp;omega
  ·simp
 unfold fldL;simp only [List.length_append,List.length_cons,List.length_nil,nmT_len];omega
theorem sum_le (l:List (List (List UInt8))) (M:Nat) (h:∀ x∈l,(txL x).length≤M):(txL l.flatten).length≤l.length*M:=by
 induction l with
 | nil=>rw [List.flatten_nil,txL_nil];simp
 | cons a r ih =>
  have h1:=h a (by simp);have h2:=ih (fun x hx=>h x (by simp [hx]));rw [List.flatten_cons,txL_app,List.length_append,List.length_cons,Nat.succ_mul];omega
theorem cls_len {k:Kl} (h:okK k=true) (hz:bzK k≤2000000):(clsT k).length≤5000000000:=by
 obtain⟨hv,h1,h2,hb⟩:=okK_vk h;rw [cls_tx];have e1:k.fs.map (fun f=>bl 1++fldL f)=(k.fs.map (fun f=>[bl 1++fldL f])).flatten:=by
  induction k.fs with
  | nil=>rfl
  | cons a r ih=>rw [List.map_cons,List.map_cons,List.flatten_cons,←ih];rfl
 have g1:(txL (k.fs.map (fun f=>bl 1++fldL f))).length≤k.fs.length*200:=by
  rw [e1];have:=sum_le (k.fs.map (fun f=>[bl 1++fldL f])) 200 (fun x hx=>by
   obtain⟨f,hf,rfl⟩:=List.mem_map.1 hx;have:=fld_len (hv.fs f hf);rw [txL_cons,txL_nil];simp [bl_len];omega)
  rwa [List.length_map] at this
 have g2:(txL (k.bs.flatMap blkL)).length≤k.bs.length*200000100:=by
  have:=sum_le (k.bs.map blkL) 200000100 (fun x hx=>by
   obtain⟨b,hm,rfl⟩:=List.mem_map.1 hx;have q1:=li_len (hb b hm) (by have:=bzK_mem hm;omega) (k:=2) (by omega);have q2:=nm16 (hv.bs b hm).1;rw [bk_tx];simp only [List.length_append,List.length_cons,List.length_nil,bl_len];have q3:(blkH b.1).length≤40:=(by unfold blkH;simp [constraintW,nmT_len];omega);omega)
  rwa [List.length_map] at this
 have g3:(clsH k).length≤60:=by
  have q1:=nm16 hv.nm;have q2:k.par.size≤16:=(by rcases hv.par with h | h;(· omega);(· exact nm16 h));unfold clsH;split
  ·simp [classW,nmT_len];omega
  ·simp [classW,extendsW,nmT_len];omega
 have g4:k.fs.length*200≤16*200:=Nat.mul_le_mul h1 (Nat.le_refl _);have g5:k.bs.length*200000100≤16*200000100:=Nat.mul_le_mul h2 (Nat.le_refl _);simp only [List.length_append,List.length_cons,List.length_nil];omega
theorem printP_any (w0:World) (k:Kl) (pf:Option Addr) (cf:Nat) (pk:Option Addr) (ck:Nat) (hx:KA w0.heap.size w0 pf cf pk ck k) (hz:bzK k≤2000000) (ht:TabE w0) (W:World) (hW:Below w0.heap.size w0 W) :
  Calls Tryz.prog 15 #[.agg #[.string k.nm,.string k.par,.slice pf k.fs.length cf,.slice pk k.bs.length ck]] W (tS (klT k) W):=by
 have hlk:(clOf k).bs.length=k.bs.length:=(by unfold clOf;simp);have VC:Hid (∀ W2,Below w0.heap.size w0 W2→Calls Tryz.prog 31 #[.agg #[.string k.nm,.string k.par,.slice pf k.fs.length cf,.slice pk k.bs.length ck]] W2 (tInt (validE (clOf k)) W2)):=Lh fun W2 h2=>by
  have:=valid_any (clOf k) pf cf pk ck W2.heap.size W2 ((hx.under h2).wide h2.size).cv (Nat.le_refl _) (ht.base.later h2);rw [hlk] at this;exact this
 have CC:Hid (∀ W2,Below w0.heap.size w0 W2→Calls Tryz.prog 32 #[.slice pk k.bs.length ck,.func (.func 33) #[] #[]] W2 (tBool (k.bs.any (fun b=>wrgB b.2)) W2)):=(Lh fun W2 h2=>bks_has w0 k.bs _ W2 hx.bs (fun b hb=>by have:=bzK_mem hb;omega) ht.base h2);have LC:Hid (okK k=true→∀ W2,Below w0.heap.size w0 W2→Calls Tryz.prog 34 #[.pointer (some ⟨W2.heap.size,0,none⟩),.agg #[.string k.nm,.string k.par,.slice pf k.fs.length cf,.slice pk k.bs.length ck]] (W2.alloc (.cells #[.pointer none,.slice none 0 0] 63)) (tPg W2.heap.size W2.heap.size (clsT k) (.tuple #[]) (W2.alloc (.cells #[.pointer none,.slice none 0 0] 63)))):=Lh fun h W2 h2=>by
  obtain⟨hv,_,_,hb⟩:=okK_vk h;have:=class_any w0 k pf cf pk ck hx hv (fun b hm=>(valid_vl (hb b hm)).2) (fun b hm=>by have:=bzK_mem hm;omega) ht W2.heap.size W2.heap.size [] _ (st_new h2) (by have:=cls_len h hz;rw [List.length_nil];omega);rw [List.nil_append] at this;exact this
 have HE:Hid (okK k=(decide (validE (clOf k)=0)&&!k.bs.any (fun b=>wrgB b.2))):=Lh rfl;have HK:Hid (klT k=if okK k=true then clsT k else []):=Lh rfl;rw [HK.out];have B1:=hW.then_ (ba W (.cells #[.string k.nm,.string k.par,.slice pf k.fs.length cf,.slice pk k.bs.length ck] 32));have A1:=ba W (.cells #[.string k.nm,.string k.par,.slice pf k.fs.length cf,.slice pk k.bs.length ck] 32);have F1:Bx (W.alloc (.cells #[.string k.nm,.string k.par,.slice pf k.fs.length cf,.slice pk k.bs.length ck] 32)) W.heap.size 32 [.string k.nm,.string k.par,.slice pf k.fs.length cf,.slice pk k.bs.length ck]:=Bx.new _ _ _;clear hx hz ht hlk hW HK;generalize validE (clOf k)=E at *
 generalize k.bs.any (fun b=>wrgB b.2)=A at *
 generalize clsT k=T at *
 generalize okK k=O at *
 generalize k.nm=nm at *
 generalize k.par=par at *
 generalize k.fs.length=nf at *
 generalize k.bs.length=nk at *
 obtain⟨W0,hW0⟩:∃ W0,W.alloc (.cells #[.string nm,.string par,.slice pf nf cf,.slice pk nk ck] 32)=W0:=⟨_,rfl⟩;rw [hW0] at B1 A1 F1;have HF:=Lh F1;have HB:=Lh B1;have HA:=Lh A1;have HX:=Lh (Below.refl W0.heap.size W0);have c0:=F1.blk.c 0 _ rfl;have c1:=F1.blk.c 1 _ rfl;have c2:=F1.blk.c 2 _ rfl;have c3:=F1.blk.c 3 _ rfl;clear F1 B1 A1;by_cases hE:E=0
 ·subst hE;cases A
  ·have hO:O=true:=(by rw [HE.out];rfl);subst hO;have LD:=Lh (LC.out rfl);rw [if_pos rfl];clear LC HE
   go_enter Tryz.func15,Tryz.ntmps15
   go_wp2_with (first
    |(go_at_call 31;((with_reducible refine (VC.out _ HB.out).mono ?_);rintro e w2 ⟨rfl,hb⟩;have HX:=Lh (HX.out.then_ hb);clear c0 c1 c2 c3;have X:=HF.out.blk.stay HX.out;have c0:=X.c 0 _ rfl;have c1:=X.c 1 _ rfl;have c2:=X.c 2 _ rfl;have c3:=X.c 3 _ rfl;clear X hb))
    |(go_at_call 32;((with_reducible refine (CC.out _ (HB.out.then_ HX.out)).mono ?_);rintro e w3 ⟨rfl,hb⟩;have HX:=Lh (HX.out.then_ hb);clear c0 c1 c2 c3;have X:=(HF.out.blk.stay HX.out).alloc (.cells #[.pointer none,.slice none 0 0] 63);have c0:=X.c 0 _ rfl;have c1:=X.c 1 _ rfl;have c2:=X.c 2 _ rfl;have c3:=X.c 3 _ rfl;clear X;have X:=HF.out.blk.stay HX.out;have b0:=X.c 0 _ rfl;have b1:=X.c 1 _ rfl;have b2:=X.c 2 _ rfl;have b3:=X.c 3 _ rfl;clear X hb))
    |(go_at_call 34;((with_reducible refine (LD.out _ (HB.out.then_ HX.out)).mono ?_);rintro e w4 ⟨rfl,hp,hk3⟩;have HP:=Lh hp;have HK:=Lh hk3;have HSZ:w3.heap.size≤w4.heap.size:=(by have:=hk3.size;simp at this;omega);clear hp hk3))
    |(go_at_call 29;((with_reducible refine (str_any _ _ T w4 HP.out HSZ).mono ?_);rintro e w5 ⟨rfl,hb⟩;have HB4:=Lh hb;clear hb)))
   go_ret;exact⟨rfl,(HA.out.then_ HX.out).then_ (((ba _ _).trans HK.out.low).trans HB4.out)⟩
  ·have hO:O=false:=(by rw [HE.out];rfl);subst hO;rw [if_neg (by decide)];clear LC HE
   go_enter Tryz.func15,Tryz.ntmps15
   go_wp2_with (first
    |(go_at_call 31;((with_reducible refine (VC.out _ HB.out).mono ?_);rintro e w2 ⟨rfl,hb⟩;have HX:=Lh (HX.out.then_ hb);clear c0 c1 c2 c3;have X:=HF.out.blk.stay HX.out;have c0:=X.c 0 _ rfl;have c1:=X.c 1 _ rfl;have c2:=X.c 2 _ rfl;have c3:=X.c 3 _ rfl;clear X hb))
    |(go_at_call 32;((with_reducible refine (CC.out _ (HB.out.then_ HX.out)).mono ?_);rintro e w3 ⟨rfl,hb⟩;have HX:=Lh (HX.out.then_ hb);clear hb)))
   go_ret;exact⟨rfl,HA.out.then_ HX.out⟩
 ·have hO:O=false:=(by rw [HE.out,decide_eq_false hE];rfl);subst hO;rw [if_neg (by decide)];have f1:(E != 0)=true:=(by simpa using hE);clear LC HE hE
  go_enter Tryz.func15,Tryz.ntmps15
  go_wp2_with (go_at_call 31;((with_reducible refine (VC.out _ HB.out).mono ?_);rintro e w2 ⟨rfl,hb⟩;have HX:=Lh (HX.out.then_ hb);clear hb))
  go_ret;exact⟨rfl,HA.out.then_ HX.out⟩
end CtW
namespace CtW
open Go Go.RowKit Go.Shelf NumM LexW ExW ItW LexM ExM EtM EtW ItM CtM
def KsA (N:Nat) (w:World) (v:Value) (ks:List Kl):Prop :=
 ∃ (p:Option Addr) (cap:Nat) (pf:Nat→Option Addr) (cf:Nat→Nat) (pk:Nat→Option Addr) (ck:Nat→Nat),v=.slice p ks.length cap∧ks.length*80≤140737488351232∧ks.length≤cap ∧
  (∀ (i:Nat) (k:Kl),ks[i]? = some k→KA N w (pf i) (cf i) (pk i) (ck i) k) ∧
  (0<ks.length→∃ b off,p=some ⟨b,off,none⟩∧b<N∧∀ (i:Nat) (k:Kl),ks[i]? = some k →
   w.cell? ⟨b,off+i*4,none⟩=some (.string k.nm)∧w.cell? ⟨b,off+i*4+1,none⟩=some (.string k.par)∧w.cell? ⟨b,off+i*4+2,none⟩=some (.slice (pf i) k.fs.length (cf i))∧w.cell? ⟨b,off+i*4+3,none⟩=some (.slice (pk i) k.bs.length (ck i)))
theorem KsA.take {N:Nat} {w:World} {p:Option Addr} {n cap:Nat} {ks:List Kl} (h:KsA N w (.slice p n cap) ks) (m:Nat) (hm:m≤ks.length):KsA N w (.slice p m cap) (ks.take m):=by
 obtain⟨p',cap',pf,cf,pk,ck,e,h1,h2,h3,h4⟩:=h;obtain⟨rfl,_,rfl⟩:p=p'∧True∧cap=cap':=(by simp at e;exact⟨e.1,trivial,e.2.2⟩);have hl:(ks.take m).length=m:=(by rw [List.length_take];omega);have get:∀ (i:Nat) (k:Kl),(ks.take m)[i]? = some k→ks[i]? = some k:=fun i k hk=>by
  rw [List.getElem?_take] at hk;split at hk
  ·exact hk
  ·cases hk
 exact⟨p,cap,pf,cf,pk,ck,by rw [hl],by rw [hl];omega,by rw [hl];omega,fun i k hk=>h3 i k (get i k hk),fun h0=>by
  rw [hl] at h0;obtain⟨b,off,e,hb,hc⟩:=h4 (by omega);exact⟨b,off,e,hb,fun i k hk=>hc i k (get i k hk)⟩⟩
end CtW
namespace CtW
open Go Go.RowKit Go.Shelf NumM LexW ExW ItW LexM ExM EtM EtW ItM CtM
open ClM (Fld fieldE)
open ClW (At RowA Lo CV)
def AL (w:World):List (List Value × TypeId)→World
 | []=>w
 | p::r=>AL (w.alloc (.cells p.1.toArray p.2)) r
theorem AL_below:∀ (l:List (List Value × TypeId)) (w:World),Below w.heap.size w (AL w l)
 | [],_=>Below.refl _ _
 | p::r,w=>(ba w (.cells p.1.toArray p.2)).then_ (AL_below r _)
theorem AL_blk:∀ (l:List (List Value × TypeId)) (w:World) (i:Nat) (p:List Value × TypeId),l[i]? = some p→Blk (AL w l) (w.heap.size+i) p.1
 | [],_,_,_,h=>by simp at h
 | q::r,w,0,p,h=>by
  obtain rfl:q=p:=(by simpa using h);exact (Blk.new w q.1 q.2).stay (AL_below r _)
 | q::r,w,i+1,p,h=>by
  have h1:=AL_blk r (w.alloc (.cells q.1.toArray q.2)) i p (by simpa using h);rw [World.size_alloc] at h1;show Blk (AL (w.alloc _) r) _ _;have e:w.heap.size+(i+1)=w.heap.size+1+i:=(by omega);rw [e];exact h1
def kindB:ByteArray:=⟨#[107,105,110,100]⟩
def awV:Ex:=.mk 2 0 kindB []
def awC:Ex:=.mk 1 3 ⟨#[]⟩ []
def awE:Ex:=.mk 17 0 ⟨#[]⟩ [awV,awC]
def awI:It:=.mk 1 awE ⟨#[]⟩ ⟨#[]⟩ [] [] [] [] []
def awF:Fld:=⟨kindB,2,0,1,0⟩
def awK:Kl:=⟨⟨#[112]⟩,⟨#[98,97,115,101]⟩,[awF],[(⟨#[108,101,103,97,108]⟩,[awI])]⟩
def awW:List Wt:=[⟨0,0,2,true⟩,⟨1,3,6,false⟩]
def awL (b:Nat):List (List Value × TypeId) :=
 [([.int .i64 2,.int .i64 0,.string kindB,.slice none 0 0],51),
  ([.int .i64 2,.int .i64 0,.string kindB,.slice none 0 0,.int .i64 1,.int .i64 3,.string ⟨#[]⟩,.slice none 0 0],51),
  ([.int .i64 1,.int .i64 17,.int .i64 0,.string ⟨#[]⟩,.slice (some ⟨b+1,0,none⟩) 2 2,.string ⟨#[]⟩,.string ⟨#[]⟩,.slice none 0 0,.slice none 0 0,.slice none 0 0,.slice none 0 0,.slice none 0 0],53),
  ([.string kindB,.int .i64 2,.int .i64 0,.int .i64 1,.int .i64 0],55),
  ([.int .i64 1,.int .i64 17,.int .i64 0,.string ⟨#[]⟩,.slice (some ⟨b+1,0,none⟩) 2 2,.string ⟨#[]⟩,.string ⟨#[]⟩,.slice none 0 0,.slice none 0 0,.slice none 0 0,.slice none 0 0,.slice none 0 0],53),
  ([.string ⟨#[108,101,103,97,108]⟩,.slice (some ⟨b+4,0,none⟩) 1 1],57),
  ([.string ⟨#[112]⟩,.string ⟨#[98,97,115,101]⟩,.slice (some ⟨b+3,0,none⟩) 1 1,.slice (some ⟨b+5,0,none⟩) 1 1],32),
  ([.int .i64 0,.int .i64 0,.int .i64 2,.bool true,.int .i64 1,.int .i64 3,.int .i64 6,.bool false],45)]
section
variable {w:World} {N:Nat}
theorem aw_st:StA N w (.slice none 0 0) []:=⟨none,0,rfl,by decide,by decide,by simp,fun h=>absurd h (by decide)⟩
theorem aw_wt0:WtA N w (.slice none 0 0) []:=⟨none,0,rfl,by decide,by decide,fun h=>absurd h (by decide)⟩
theorem aw_its0:ItsA N w (.slice none 0 0) []:=RowI.its (l:=[]) (V:=fun _ _=>.bool true) ⟨by decide,by decide,fun h=>absurd h (by decide),fun i x h=>by simp at h⟩
end
theorem aw_wt (w:World):WtA (AL w (awL w.heap.size)).heap.size (AL w (awL w.heap.size)) (.slice (some ⟨w.heap.size+7,0,none⟩) 2 2) awW:=by
 have B:=AL_blk (awL w.heap.size) w 7 _ rfl;refine⟨some ⟨w.heap.size+7,0,none⟩,2,rfl,by decide,by decide,fun _=>⟨_,0,rfl,B.lt,fun i t hi=>?_⟩⟩;rcases i with _ | _ | i
 ·obtain rfl:(⟨0,0,2,true⟩:Wt)=t:=(by simpa [awW] using hi);exact⟨B.c 0 _ rfl,B.c 1 _ rfl,B.c 2 _ rfl,B.c 3 _ rfl⟩
 ·obtain rfl:(⟨1,3,6,false⟩:Wt)=t:=(by simpa [awW] using hi);exact⟨B.c 4 _ rfl,B.c 5 _ rfl,B.c 6 _ rfl,B.c 7 _ rfl⟩
 ·simp [awW] at hi
theorem aw_leaf {w:World} {N:Nat} (o n:Int) {s:ByteArray} (hs:s.size≤140737488351232):ExAt N w (xv o n s (.slice none 0 0)) (.mk o n s []) :=
 ExAt.mk (ks:=[]) (fun _=>none) (fun _=>0) hs (by decide) (by decide) (fun h=>absurd h (by decide)) (fun i a h=>by simp at h)
theorem aw_ex (w:World):ExAt (AL w (awL w.heap.size)).heap.size (AL w (awL w.heap.size)) (xv 17 0 ⟨#[]⟩ (.slice (some ⟨w.heap.size+1,0,none⟩) 2 2)) awE:=by
 have B:=AL_blk (awL w.heap.size) w 1 _ rfl;refine ExAt.mk (ks:=[awV,awC]) (fun _=>none) (fun _=>0) (by decide) (by decide) (by decide) (fun _=>⟨_,0,rfl,B.lt,fun i a hi=>?_⟩) (fun i a hi=>?_)
 ·rcases i with _ | _ | i
  ·obtain rfl:awV=a:=(by simpa using hi);exact⟨B.c 0 _ rfl,B.c 1 _ rfl,B.c 2 _ rfl,B.c 3 _ rfl⟩
  ·obtain rfl:awC=a:=(by simpa using hi);exact⟨B.c 4 _ rfl,B.c 5 _ rfl,B.c 6 _ rfl,B.c 7 _ rfl⟩
  ·simp at hi
 ·rcases i with _ | _ | i
  ·obtain rfl:awV=a:=(by simpa using hi);exact aw_leaf 2 0 (by decide)
  ·obtain rfl:awC=a:=(by simpa using hi);exact aw_leaf 1 3 (by decide)
  ·simp at hi
theorem aw_its (w:World):ItsA (AL w (awL w.heap.size)).heap.size (AL w (awL w.heap.size)) (.slice (some ⟨w.heap.size+4,0,none⟩) 1 1) [awI]:=by
 have B:=AL_blk (awL w.heap.size) w 4 _ rfl;refine RowI.its (l:=[awI]) (V:=fun _ r=>match r with | 4=>.slice (some ⟨w.heap.size+1,0,none⟩) 2 2 | _=>.slice none 0 0) ⟨by decide,by decide,fun _=>⟨_,0,rfl,B.lt,fun i y hy=>?_⟩,fun i y hy=>?_⟩
 ·rcases i with _ | i
  ·obtain rfl:awI=y:=(by simpa using hy);exact⟨B.c 0 _ rfl,B.c 1 _ rfl,B.c 2 _ rfl,B.c 3 _ rfl,B.c 4 _ rfl,B.c 5 _ rfl,B.c 6 _ rfl,B.c 7 _ rfl,B.c 8 _ rfl,B.c 9 _ rfl,B.c 10 _ rfl,B.c 11 _ rfl⟩
  ·simp at hy
 ·rcases i with _ | i
  ·obtain rfl:awI=y:=(by simpa using hy);exact⟨by decide,by decide,aw_ex w,aw_wt0,aw_its0,aw_its0,aw_st,aw_st⟩
  ·simp at hy
theorem aw_k (w:World):KA (AL w (awL w.heap.size)).heap.size (AL w (awL w.heap.size)) (some ⟨w.heap.size+3,0,none⟩) 1 (some ⟨w.heap.size+5,0,none⟩) 1 awK:=by
 have B3:=AL_blk (awL w.heap.size) w 3 _ rfl;have B5:=AL_blk (awL w.heap.size) w 5 _ rfl;refine⟨by decide,by decide,?_,⟨some ⟨w.heap.size+5,0,none⟩,1,fun _=>.slice (some ⟨w.heap.size+4,0,none⟩) 1 1,rfl,by decide,by decide,fun i b hb=>?_,fun _=>⟨_,0,rfl,B5.lt,fun i b hb=>?_⟩⟩⟩
 ·refine row_at .fields Fld.lf [awF] _ 1 1 rfl (by decide) (by decide) (fun _=>⟨_,0,rfl,B3.lt,fun i f hi j y sh hy hs=>?_⟩) (fun _=>rfl);rcases i with _ | i
  ·obtain rfl:awF=f:=(by simpa using hi);match j,hy,hs with
   | 0,hy,hs=>cases hy;cases hs;exact⟨_,B3.c 0 _ rfl,.s _ (by decide)⟩
   | 1,hy,hs=>cases hy;cases hs;exact⟨_,B3.c 1 _ rfl,.n _⟩
   | 2,hy,hs=>cases hy;cases hs;exact⟨_,B3.c 2 _ rfl,.n _⟩
   | 3,hy,hs=>cases hy;cases hs;exact⟨_,B3.c 3 _ rfl,.n _⟩
   | 4,hy,hs=>cases hy;cases hs;exact⟨_,B3.c 4 _ rfl,.n _⟩
   | j+5,hy,_=>simp [Fld.lf] at hy
  ·simp at hi
 ·rcases i with _ | i
  ·obtain rfl:(⟨#[108,101,103,97,108]⟩,[awI])=b:=(by simpa [awK] using hb);exact⟨by decide,aw_its w⟩
  ·simp [awK] at hb
 ·rcases i with _ | i
  ·obtain rfl:(⟨#[108,101,103,97,108]⟩,[awI])=b:=(by simpa [awK] using hb);exact⟨B5.c 0 _ rfl,B5.c 1 _ rfl⟩
  ·simp [awK] at hb
theorem aw_wtT:wtsT awW=[48,32,58,61,32,50,44,32,49,32,46,46,32,51,32,58,47,32,54]:=by kernel_rfl
theorem aw_klT:klT awK=[99,108,97,115,115,32,112,32,101,120,116,101,110,100,115,32,98,97,115,101,32,123,10,32,32,32,32,114,97,110,100,32,107,105,110,100,32,58,32,50,59,10,32,32,32,32,99,111,110,115,116,114,97,105,110,116,32,108,101,103,97,108,32,123,10,32,32,32,32,32,32,32,32,107,105,110,100,32,60,32,51,59,10,32,32,32,32,125,10,125,10]:=by kernel_rfl
end CtW
end Go.Proofs.YtihnejaopejbgaaGreatDoor
