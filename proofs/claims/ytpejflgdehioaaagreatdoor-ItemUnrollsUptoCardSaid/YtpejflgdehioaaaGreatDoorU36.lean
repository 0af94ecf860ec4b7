/-
  Laws that the card uses; no conditions beside those that each states (ItAdd).
-/
import Derived.Deep.DrawnRows
import Derived.Test.YtpejflgdehioaaaGreatDoorU31
import Derived.Test.YtpejflgdehioaaaGreatDoorU32
set_option maxRecDepth 100000
set_option maxHeartbeats 16000000
namespace Go.Proofs.YtpejflgdehioaaaGreatDoor
namespace ItW
open Go Go.RowKit Go.«Sort» NumM LexW LexM ExM ExW ItM
open ClM (Fld)
attribute [local go_sem ↓] Go.wp_at_zero Go.wp_at_succ
theorem infoIt:(Tryz.prog.info? 55).map (fun i=>(i.zero,i.size,i.bytes))=some (some (.agg #[.int .i64 0,.int .i64 0,.int .i64 0,.string ⟨#[]⟩,.slice none 0 0,.string ⟨#[]⟩,.string ⟨#[]⟩,.slice none 0 0,.slice none 0 0,.slice none 0 0,.slice none 0 0,.slice none 0 0]),12,216):=by kernel_rfl
def AddP (w0:World) (xb fb:Nat) (L:List Pc) (X:List It) (w:World) (e:Ending) (w':World):Prop :=
 e=.returned (.tuple #[])∧∃ v' L2,XL xb fb w0.heap.size w' v' (L++L2)∧L2.map Pc.x=X∧KX xb w w'∧Below w0.heap.size w0 w'
structure RA (w0:World) (xb:Nat) (wB:World) (b7 b9 b10:Nat) (fv:Value) (cs hs:List Value) (W:World):Prop where
 h7:Blk W b7 [fv]
 h9:Blk W b9 cs
 h10:Blk W b10 hs
 a7:Av xb W b7
 a9:Av xb W b9
 a10:Av xb W b10
 xl:xb<W.heap.size
 ow:∀ k,ownX xb W=some k→k<W.heap.size
 kx:KX xb wB W
 lo:Below w0.heap.size w0 W
theorem RA.keep {w0:World} {xb:Nat} {wB:World} {b7 b9 b10:Nat} {fv:Value} {cs hs:List Value} {W W':World} (h:RA w0 xb wB b7 b9 b10 fv cs hs W) (k:KX xb W W') (ow:∀ k,ownX xb W'=some k→k<W'.heap.size) (lo:Below w0.heap.size w0 W'):RA w0 xb wB b7 b9 b10 fv cs hs W' :=
 ⟨blk_eq h.h7 (k.keep _ h.a7).2,blk_eq h.h9 (k.keep _ h.a9).2,blk_eq h.h10 (k.keep _ h.a10).2,(k.keep _ h.a7).1,(k.keep _ h.a9).1,(k.keep _ h.a10).1,Nat.lt_of_lt_of_le h.xl k.sz,ow,h.kx.trans k,lo⟩
theorem RA.below {w0:World} {xb:Nat} {wB:World} {b7 b9 b10:Nat} {fv:Value} {cs hs:List Value} {W W':World} (h:RA w0 xb wB b7 b9 b10 fv cs hs W) (hb:Below W.heap.size W W'):RA w0 xb wB b7 b9 b10 fv cs hs W' :=
 h.keep (KX.of_below h.xl hb) (fun k hk=>by rw [ownX_below h.xl hb] at hk;have:=h.ow k hk;have:=hb.size;omega) (h.lo.trans (hb.mono h.lo.size))
abbrev S9 (w0:World) (xb:Nat) (wB:World) (b7 b9 b10:Nat) (fv:Value) (cs:List Value) (o n:Int) (s:ByteArray) (x v8 v9:Value) (W:World):Prop :=
 W.cell? ⟨b9,8,none⟩=some v8∧W.cell? ⟨b9,9,none⟩=some v9∧W.cell? ⟨b10,0,none⟩=some (.int .i64 o)∧W.cell? ⟨b10,1,none⟩=some (.int .i64 n)∧W.cell? ⟨b10,2,none⟩=some (.string s)∧W.cell? ⟨b10,3,none⟩=some x ∧
  W.cell? ⟨b7,0,none⟩=some fv∧RA w0 xb wB b7 b9 b10 fv cs [.int .i64 o,.int .i64 n,.string s,x] W
theorem S9.of {w0:World} {xb:Nat} {wB:World} {b7 b9 b10:Nat} {fv:Value} {cs:List Value} {o n:Int} {s:ByteArray} {x v8 v9:Value} {W:World} (h8:cs[8]? = some v8) (h9:cs[9]? = some v9) (h:RA w0 xb wB b7 b9 b10 fv cs [.int .i64 o,.int .i64 n,.string s,x] W):S9 w0 xb wB b7 b9 b10 fv cs o n s x v8 v9 W :=
 ⟨h.h9.c 8 _ h8,h.h9.c 9 _ h9,h.h10.c 0 _ rfl,h.h10.c 1 _ rfl,h.h10.c 2 _ rfl,h.h10.c 3 _ rfl,h.h7.c 0 _ rfl,h⟩
theorem S9.r {w0:World} {xb:Nat} {wB:World} {b7 b9 b10:Nat} {fv:Value} {cs:List Value} {o n:Int} {s:ByteArray} {x v8 v9:Value} {W:World} (h:S9 w0 xb wB b7 b9 b10 fv cs o n s x v8 v9 W):RA w0 xb wB b7 b9 b10 fv cs [.int .i64 o,.int .i64 n,.string s,x] W:=h.2.2.2.2.2.2.2
theorem one_arg {T:Nat→Prop} {W:World} {g:Nat} {op:Int} {c:Ex} {p5:Option Addr} {c5:Nat} (hT:T g)
  (hB:Blk W g [.int .i64 c.op,.int .i64 c.n,.string c.nm,.slice p5 c.args.length c5]) (h1:ExS T W (xv c.op c.n c.nm (.slice p5 c.args.length c5)) c):ExS T W (xv op 0 ⟨#[]⟩ (.slice (some ⟨g,0,none⟩) 1 1)) (.mk op 0 ⟨#[]⟩ [c]):=by
 refine ExS.mk (ks:=[c]) (fun _=>p5) (fun _=>c5) (by decide) (by simp) (by simp) (fun _=>⟨g,0,rfl,hT,fun i a ha=>?_⟩) (fun i a ha=>?_)
 ·rcases i with _ | i
  ·obtain rfl:c=a:=(by simpa using ha);exact⟨hB.c 0 _ rfl,hB.c 1 _ rfl,hB.c 2 _ rfl,hB.c 3 _ rfl⟩
  ·simp at ha
 ·rcases i with _ | i
  ·obtain rfl:c=a:=(by simpa using ha);exact h1
  ·simp at ha
theorem add_any (w0:World) (xb fb:Nat) (hxb:w0.heap.size≤xb) (fs:List Fld) (hS:∀ f∈fs,0≤f.sz∧f.sz≤8) (hF:FsA w0 fb fs) (l:List It):∀ (k:Nat) (q:Option Ex) (σ:Ex→Ex) (f:FuncId) (caps:Array Value) (vc v0 v:Value) (L:List Pc) (w:World),
  dpt k l→k≤6→iszs l≤10000→SmE l→ItsA w0.heap.size w0 v l→Below w0.heap.size w0 w→XL xb fb w0.heap.size w v0 L→FixC xb w f caps σ→(∀ e,sz (σ e)≤sz e)→CondS (Av xb w) w vc q→(∀ c,q=some c→sz c+1002*k≤9000)→(L.length:Int)+cntL fs l≤1000 →
  Calls Tryz.prog 87 #[.pointer (some ⟨xb,0,none⟩),v,vc,.func (.func f) #[] caps] w (AddP w0 xb fb L (exL fs q σ l) w):=by
 induction l using its_ind with
 | h l ih =>
  intro k q σ f caps vc v0 v L w hd hk hz hsm hx hB0 hxl hfc hσ hcd hqs hcnt;obtain⟨p,cap,V,rfl,hr⟩:=hx.form;have hl:=hr.hl;have HR:=Lh hr;have HS:=Lh hS;have HF:=Lh hF;have HIH:=Lh ih;have HD:=Lh hd;have HSM:=Lh hsm;have HSG:=Lh hσ;have HQS:=Lh hqs;have hen:=hfc.en;obtain⟨K,hK⟩:∃ K,l.length=K:=⟨_,rfl⟩;have HK:=Lh hK;rw [hK] at hl ⊢;have hk47:K≤140737488351232:=(by omega);have hb1:=ba w (.cells #[.func (.func f) #[] caps] 122);have B7:=Blk.new w [.func (.func f) #[] caps] 122;have HB01:=Lh (hB0.trans (hb1.mono hB0.size));have HXL1:=Lh (hxl.below hb1);have HKX1:=Lh (KX.of_below hxl.bx.lt hb1);have HA7:Hid (Av xb (w.alloc (.cells #[.func (.func f) #[] caps] 122)) w.heap.size):=Lh (Av.fresh hxl hb1 (Nat.le_refl _) (by simp));have HFC1:=Lh (hfc.later HKX1.out);have HCD1:=Lh (hcd.eq HKX1.out.keep);have HB7:=Lh B7;have hxw:xb<w.heap.size:=hxl.bx.lt;have h0w:=hB0.size;have FINP:Hid (∀ (v':Value) (L2:List Pc) (w':World),XL xb fb w0.heap.size w' v' (L++L2)→L2.map Pc.x=exL fs q σ l→KX xb (w.alloc (.cells #[.func (.func f) #[] caps] 122)) w'→Below w0.heap.size w0 w'→AddP w0 xb fb L (exL fs q σ l) w (.returned (.tuple #[])) w'):=(Lh fun v' L2 w' h1 h2 h3 h4=>⟨rfl,v',L2,h1,h2,HKX1.out.trans h3,h4⟩);clear hK hr ih hx hd hsm hσ hqs hb1 B7 hxl hfc hcd hB0 hS hF
  go_enter Tryz.func87,Tryz.ntmps87
  go_wp2;obtain⟨w1,hw1⟩:∃ w1,w.alloc (.cells #[.func (.func f) #[] caps] 122)=w1:=⟨_,rfl⟩;simp only [List.toArray] at HB7 HA7 HXL1 HB01 HKX1 HFC1 HCD1 FINP;rw [hw1] at HB7 HA7 HXL1 HB01 HKX1 HFC1 HCD1 FINP ⊢;have h1w:w1.heap.size=w.heap.size+1:=(by rw [←hw1];simp);clear hw1;go_loopw [15] (fun i wr=>∃ j:Nat,∃ v' L2,j≤K∧i=.int .i64 j∧Hid (XL xb fb w0.heap.size wr v' (L++L2))∧Hid (L2.map Pc.x=exL fs q σ (l.take j))∧Hid (KX xb w1 wr)∧Hid (Below w0.heap.size w0 wr)) (fun i _=>K - (intOf i).toNat)
  case atStart=>exact⟨0,v0,[],Nat.zero_le _,rfl,by rw [List.append_nil];exact HXL1,Lh (by rw [List.take_zero,exL_nil];rfl),Lh (KX.refl _ _),HB01⟩
  case round =>
   obtain⟨j,v',L2,hj,rfl,XW,LW,KW,BW⟩:=hrel;by_cases hlt:j<K
   ·obtain⟨a,ha⟩:∃ a,l[j]? = some a:=⟨_,List.getElem?_eq_getElem (by rw [HK.out];exact hlt)⟩;have hr2:=HR.out.under BW.out;obtain⟨b,off,rfl,hb,hcell⟩:=hr2.hp (by rw [HK.out];omega);have hva:=hr2.hv j a ha;obtain⟨g0,g1,g2,g3,g4,g5,g6,g7,g8,g9,g10,g11⟩:=hcell j a ha;have hmem:=List.mem_of_getElem? ha;have hsa:=iszs_take ha;have hsb:=iszs_take_le (j+1) l;have hse:=isz_eq a;have hsme:=HSM.out.one hmem;have hszi:iszs a.it≤10000∧iszs a.el≤10000:=(by omega);have hkd:∃ k',dpt k' a.it∧dpt k' a.el∧k'+1≤k:=by
     cases k with
     | zero=>have:=HD.out;have h0:l=[]:=this;rw [h0] at hmem;cases hmem
     | succ k=>exact⟨k,(HD.out a hmem).1,(HD.out a hmem).2,Nat.le_refl _⟩
    obtain⟨k',hd1,hd2,hk'⟩:=hkd;have hwr0:=BW.out.size;have CO:Hid (∀ W,Below wr.heap.size wr W→Calls Tryz.prog 131 #[.map (some fb),iv a.kd a.e.op a.e.n a.e.nm (V j 4) a.nm a.ix (V j 7) (V j 8) (V j 9) (V j 10) (V j 11)] W (tInt (cntI fs a) W)):=Lh fun W hW=>by
     have hW2:=hW.mono hwr0;have hF2:=HF.out.later (BW.out.trans hW2);refine countOf_any fb fs HS.out a _ _ _ _ _ _ w0.heap.size W hF2 (hva.under hW2) ⟨cnt_pos fs HS.out _,?_⟩ ⟨cnt_pos fs HS.out _,?_⟩ (fun W' hW'=>?_) (fun W' hW'=>?_)
     ·have h1:=cntL_le fs HS.out a.it k' hd1;have h2:(8:Int) ^ k'≤262144:=by
       have:k'=0∨k'=1∨k'=2∨k'=3∨k'=4∨k'=5∨k'=6:=(by omega);rcases this with rfl | rfl | rfl | rfl | rfl | rfl | rfl<;>decide
      have h3:(iszs a.it:Int)*8 ^ k'≤10000*262144:=Int.mul_le_mul (by omega) h2 (Int.le_of_lt (Int.pow_pos (by omega))) (by omega);omega
     ·have h1:=cntL_le fs HS.out a.el k' hd2;have h2:(8:Int) ^ k'≤262144:=by
       have:k'=0∨k'=1∨k'=2∨k'=3∨k'=4∨k'=5∨k'=6:=(by omega);rcases this with rfl | rfl | rfl | rfl | rfl | rfl | rfl<;>decide
      have h3:(iszs a.el:Int)*8 ^ k'≤10000*262144:=Int.mul_le_mul (by omega) h2 (Int.le_of_lt (Int.pow_pos (by omega))) (by omega);omega
     ·exact count_any fb fs HS.out a.it k' _ w0.heap.size W' hd1 (by omega) (by omega) (hF2.later hW') ((hva.its.under hW2).under (hW'.mono (by have:=hW.size;omega))) (by have:=hW.size;have:=hW'.size;omega)
     ·exact count_any fb fs HS.out a.el k' _ w0.heap.size W' hd2 (by omega) (by omega) (hF2.later hW') ((hva.els.under hW2).under (hW'.mono (by have:=hW.size;omega))) (by have:=hW.size;have:=hW'.size;omega)
    have HVA:=Lh (HR.out.hv j a ha);have HTK:Hid (exL fs q σ (l.take (j+1))=exL fs q σ (l.take j)++exI fs q σ a):=Lh (exL_take ha);have hlen:((L++L2).length:Int)+cntI fs a≤1000:=by
     have e1:=exL_len fs HS.out (l.take j) q σ;rw [←LW.out,List.length_map] at e1;have e2:=cntL_take (fs:=fs) ha;have e3:cntL fs l=cntL fs (l.take (j+1))+cntL fs (l.drop (j+1)):=by
      have:=exL_len fs HS.out l q σ;have e4:=exL_len fs HS.out (l.take (j+1)) q σ;have e5:=exL_len fs HS.out (l.drop (j+1)) q σ;have e6:=exL_append fs q σ (l.take (j+1)) (l.drop (j+1));rw [List.take_append_drop] at e6;rw [e6,List.length_append] at this;omega
     have e7:=cnt_pos fs HS.out (l.drop (j+1));rw [List.length_append];omega
    obtain⟨p4,k4,p7,k7,p8,k8,p9,k9,p10,k10,p11,k11,e4,e7,e8,e9,e10,e11⟩:=hva.slices;rw [e4] at g4;rw [e7] at g7;rw [e8] at g8;rw [e9] at g9;rw [e10] at g10;rw [e11] at g11;rw [e4,e7,e8,e9,e10,e11] at CO HVA;clear hcell hva hr2 e4 e7 e8 e9 e10 e11 ha hsa hsb;obtain⟨w2,hw2⟩:∃ w2,wr.alloc (.cells (ics a.kd a.e.op a.e.n a.e.nm (.slice p4 a.e.args.length k4) a.nm a.ix (.slice p7 a.ws.length k7) (.slice p8 a.it.length k8) (.slice p9 a.el.length k9) (.slice p10 a.bf.length k10) (.slice p11 a.af.length k11)).toArray 55)=w2:=⟨_,rfl⟩;have F9:=Blk.new wr (ics a.kd a.e.op a.e.n a.e.nm (.slice p4 a.e.args.length k4) a.nm a.ix (.slice p7 a.ws.length k7) (.slice p8 a.it.length k8) (.slice p9 a.el.length k9) (.slice p10 a.bf.length k10) (.slice p11 a.af.length k11)) 55;have hb2:=ba wr (.cells (ics a.kd a.e.op a.e.n a.e.nm (.slice p4 a.e.args.length k4) a.nm a.ix (.slice p7 a.ws.length k7) (.slice p8 a.it.length k8) (.slice p9 a.el.length k9) (.slice p10 a.bf.length k10) (.slice p11 a.af.length k11)).toArray 55);have hz2:=World.size_alloc wr (.cells (ics a.kd a.e.op a.e.n a.e.nm (.slice p4 a.e.args.length k4) a.nm a.ix (.slice p7 a.ws.length k7) (.slice p8 a.it.length k8) (.slice p9 a.el.length k9) (.slice p10 a.bf.length k10) (.slice p11 a.af.length k11)).toArray 55);rw [hw2] at F9 hb2 hz2;simp only [List.toArray] at hw2;have BX:=XW.out.bx.stay hb2;have m0:=BX.c 0 _ rfl;have d0:=F9.c 0 _ rfl;have d1:=F9.c 1 _ rfl;have d2:=F9.c 2 _ rfl;have d3:=F9.c 3 _ rfl;have d4:=F9.c 4 _ rfl;have d5:=F9.c 5 _ rfl;have d6:=F9.c 6 _ rfl;have d7:=F9.c 7 _ rfl;have d8:=F9.c 8 _ rfl;have d9:=F9.c 9 _ rfl;have d10:=F9.c 10 _ rfl;have d11:=F9.c 11 _ rfl;have HB2:=Lh hb2;have HF9:=Lh F9;clear hb2 F9 BX;go_wp2;clear hw2;have E1:=reB (v:=.int .i64 (cntI fs a)) (fun W hW=>CO.out W (HB2.out.then_ hW));have r0:=cell_regrown m0;have e0:=cell_regrown d0;have e1:=cell_regrown d1;have e2:=cell_regrown d2;have e3:=cell_regrown d3;have e4:=cell_regrown d4;have e5:=cell_regrown d5;have e6:=cell_regrown d6;have e7:=cell_regrown d7;have e8:=cell_regrown d8;have e9:=cell_regrown d9;have e10:=cell_regrown d10;have e11:=cell_regrown d11;have HCZ:Hid (cntI fs a=0→exI fs q σ a=[]):=(Lh fun h=>exI_none HS.out h q σ);clear CO m0 d0 d1 d2 d3 d4 d5 d6 d7 d8 d9 d10 d11;obtain⟨c,hce⟩:∃ c,cntI fs a=c:=⟨_,rfl⟩;have HCE:=Lh hce;rw [hce] at E1 HCZ hlen;clear hce;refine wp_region_quiet_below (by kernel_rfl) (by kernel_rfl) ?_;repeat (first | go_big_quiet_step ((go_at_call 131;with_reducible exact E1 _ _)) | quiet_step ((go_at_call 131;with_reducible exact E1 _ _)))
    refine wpQuiet_nil ?_;intro w4 hw';obtain⟨pq,hw''⟩:=hw';have HB24:Hid (Below w2.heap.size w2 w4):=Lh (by rw [hw''];exact below_regrown _ _ _);clear hw'' E1 r0 e0 e1 e2 e3 e4 e5 e6 e7 e8 e9 e10 e11;have HBr4:=Lh (HB2.out.then_ HB24.out);have F9:=Lh (HF9.out.stay HB24.out);have X4:=Lh (XW.out.below HBr4.out);have KW4:=Lh (KW.out.trans (KX.of_below XW.out.bx.lt HBr4.out));have BW4:=Lh (BW.out.trans (HBr4.out.mono hwr0));have A9:Hid (Av xb w4 wr.heap.size):=Lh (Av.fresh XW.out HBr4.out (Nat.le_refl _) (by have:=HB24.out.size;omega));have c0:=F9.out.c 0 _ rfl;clear HF9 HB2 HB24 HBr4 XW KW BW;by_cases hc0:c=0
    ·have HNO:=Lh (HCZ.out hc0);subst hc0;go_wp2;go_roundw
     case rel=>exact⟨j+1,v',L2,by omega,by go_num,X4,Lh (by rw [HTK.out,HNO.out,List.append_nil];exact LW.out),KW4,BW4⟩
     case measure=>simp [intOf];omega
    ·have hc1:(c == 0)=false:=(by simpa using hc0);have B7:=Lh (blk_eq HB7.out (KW4.out.keep _ HA7.out).2);have A7:=Lh (KW4.out.keep _ HA7.out).1;have FC4:=Lh (HFC1.out.later KW4.out);have CD4:=Lh (HCD1.out.eq KW4.out.keep);have c7:=B7.out.c 0 _ rfl;have c1:=F9.out.c 1 _ rfl;have c2:=F9.out.c 2 _ rfl;have c3:=F9.out.c 3 _ rfl;have c4:=F9.out.c 4 _ rfl;have K1:Hid (Calls Tryz.prog f (#[xv a.e.op a.e.n a.e.nm (.slice p4 a.e.args.length k4)]++caps) w4 (tFr (σ a.e) w4)):=Lh (FC4.out.c w4 (KX.refl _ _) w0.heap.size a.e _ (HVA.out.ex.under BW4.out) BW4.out.size (by omega));have hFsz:sz (σ a.e)≤1000:=Nat.le_trans (HSG.out _) hsme.1;obtain⟨kd,hkd⟩:∃ kd,a.kd=kd:=⟨_,rfl⟩;have HEI:Hid (exI fs q σ a=if kd=4 then exL fs (some (und q 19 (σ a.e))) σ a.it++exL fs (some (und q 19 (notE (σ a.e)))) σ a.el
       else if kd=5 then (List.range (szI fs a.nm).toNat).flatMap (fun (k:Nat)=>exL fs q (fun e=>su a.ix (cst (k:Int)) (σ e)) a.it)
       else if kd=1∨kd=2 then [hardI kd (und q 21 (σ a.e))] else [outI a]):=Lh (by rw [exI_eq,hkd])
     rw [hkd] at c0 F9 ⊢;by_cases h4:kd=4
     ·subst h4;have HEX:Hid (exI fs q σ a=exL fs (some (und q 19 (σ a.e))) σ a.it++exL fs (some (und q 19 (notE (σ a.e)))) σ a.el):=Lh (by rw [HEI.out,if_pos rfl]);have HC4:Hid (c=cntL fs a.it+cntL fs a.el):=Lh (by have:=HCE.out;rw [cntI_eq,if_pos hkd] at this;exact this.symm);have HQ1:Hid (∀ e,some (und q 19 (σ a.e))=some e→sz e+1002*k'≤9000):=Lh fun e he=>by
       cases he;have h1:=sz_und q 19 (σ a.e);cases q with
       | none=>simp only at h1;omega
       | some c0=>have h2:=HQS.out c0 rfl;simp only at h1;omega
      have HQ2:Hid (∀ e,some (und q 19 (notE (σ a.e)))=some e→sz e+1002*k'≤9000):=Lh fun e he=>by
       cases he;have h1:=sz_und q 19 (notE (σ a.e));rw [sz_not] at h1;cases q with
       | none=>simp only at h1;omega
       | some c0=>have h2:=HQS.out c0 rfl;simp only at h1;omega
      have HQ3:Hid (∀ c,q=some c→sz c≤10000):=(Lh fun c hc=>by have:=HQS.out c hc;omega);clear HCZ HEI hkd c3 c2 c1 c4;have c1:=F9.out.c 1 _ rfl;have c2:=F9.out.c 2 _ rfl;have c3:=F9.out.c 3 _ rfl;have c4:=F9.out.c 4 _ rfl;generalize σ a.e=F at *
      go_wp2_with (first
       |((with_reducible refine K1.out.mono ?_);rintro x w5 ⟨v5,rfl,hfr5,hb5⟩;obtain⟨p5,k5,rfl,h5s,h5c⟩:=hfr5.form;have HFR5:=Lh hfr5;have HB5:=Lh hb5;clear hb5 hfr5))
      clear K1 c1 c2 c3 c4 c7 c0;obtain⟨w6,hw6⟩:∃ w6,w5.alloc (.cells #[.int .i64 F.op,.int .i64 F.n,.string F.nm,.slice p5 F.args.length k5] 43)=w6:=⟨_,rfl⟩;have hb56:=ba w5 (.cells #[.int .i64 F.op,.int .i64 F.n,.string F.nm,.slice p5 F.args.length k5] 43);have B10:=Blk.new w5 [.int .i64 F.op,.int .i64 F.n,.string F.nm,.slice p5 F.args.length k5] 43;have hz6:=World.size_alloc w5 (.cells #[.int .i64 F.op,.int .i64 F.n,.string F.nm,.slice p5 F.args.length k5] 43);simp only [List.toArray] at B10;rw [hw6] at hb56 B10 hz6 ⊢;clear hw6;have hb46:=HB5.out.then_ hb56;have hs5:=HB5.out.size;have X6:=Lh (X4.out.below hb46);have k46:=KX.of_below X4.out.bx.lt hb46;have KW6:=Lh (KW4.out.trans k46);have hs4:=BW4.out.size;have BW6:=Lh (BW4.out.trans (hb46.mono hs4));have FC6:=Lh (FC4.out.later k46);have CD6:=Lh (CD4.out.eq k46.keep);have HEX6:Hid (ExS (Av xb w6) w6 (xv F.op F.n F.nm (.slice p5 F.args.length k5)) F):=Lh (fr_av (HFR5.out.later hb56) (Nat.le_refl _) X4.out hb46);have A10:Av xb w6 w5.heap.size:=Av.fresh X4.out hb46 hs5 (by omega);have RA6:=RA.mk (w0:=w0) (wB:=w6) (B7.out.stay hb46) (F9.out.stay hb46) B10 (k46.keep _ A7.out).1 (k46.keep _ A9.out).1 A10 X6.out.bx.lt X6.out.lt (KX.refl _ _) BW6.out;clear hb56 B10 hb46 A10;obtain⟨cs,hcs⟩:∃ cs,(ics 4 a.e.op a.e.n a.e.nm (.slice p4 a.e.args.length k4) a.nm a.ix (.slice p7 a.ws.length k7) (.slice p8 a.it.length k8) (.slice p9 a.el.length k9) (.slice p10 a.bf.length k10) (.slice p11 a.af.length k11))=cs:=⟨_,rfl⟩;have q8:cs[8]? = some (.slice p8 a.it.length k8):=(by rw [←hcs];rfl);have q9:cs[9]? = some (.slice p9 a.el.length k9):=(by rw [←hcs];rfl);rw [hcs] at RA6;clear hcs F9 B7 A7 A9 FC4 CD4;have s6:=S9.of q8 q9 RA6;have KE:Hid (∀ W W',S9 w0 xb w6 w.heap.size wr.heap.size w5.heap.size (.func (.func f) #[] caps) cs F.op F.n F.nm (.slice p5 F.args.length k5) (.slice p8 a.it.length k8) (.slice p9 a.el.length k9) W→Below W.heap.size W W'→S9 w0 xb w6 w.heap.size wr.heap.size w5.heap.size (.func (.func f) #[] caps) cs F.op F.n F.nm (.slice p5 F.args.length k5) (.slice p8 a.it.length k8) (.slice p9 a.el.length k9) W'):=(Lh fun W W' h hb=>S9.of q8 q9 (h.r.below hb));have s6d:=KE.out _ w6.drew s6 (Below.refl _ _).drew;have x6:=X6;have x6d:Hid (XL xb fb w0.heap.size w6.drew v' (L++L2)):=Lh (X6.out.below (Below.refl _ _).drew)
      have KU:Hid (∀ W u M,S9 w0 xb w6 w.heap.size wr.heap.size w5.heap.size (.func (.func f) #[] caps) cs F.op F.n F.nm (.slice p5 F.args.length k5) (.slice p8 a.it.length k8) (.slice p9 a.el.length k9) W→Hid (XL xb fb w0.heap.size W u M)→Calls Tryz.prog 132 #[vc,.int .i64 19,xv F.op F.n F.nm (.slice p5 F.args.length k5)] W fun e w'=>∃ b,e=.returned (.pointer (some ⟨b,0,none⟩))∧S9 w0 xb w6 w.heap.size wr.heap.size w5.heap.size (.func (.func f) #[] caps) cs F.op F.n F.nm (.slice p5 F.args.length k5) (.slice p8 a.it.length k8) (.slice p9 a.el.length k9) w'∧Hid (XL xb fb w0.heap.size w' u M)∧Hid (CondS (Av xb w') w' (.pointer (some ⟨b,0,none⟩)) (some (und q 19 F)))) :=
       Lh fun W u M h hx=>(under_any (Av xb W) q 19 F vc _ W (fun b hb=>hb.1) (CD6.out.eq h.r.kx.keep) (exsEq h.r.kx.keep HEX6.out) HQ3.out).mono fun e w' ⟨b,h1,h2,h3⟩=>⟨b,h1,KE.out _ _ h h3,Lh (hx.out.below h3),Lh (h2.up hx.out h3)⟩
      have KU2:Hid (∀ W u M B,S9 w0 xb w6 w.heap.size wr.heap.size w5.heap.size (.func (.func f) #[] caps) cs F.op F.n F.nm (.slice p5 F.args.length k5) (.slice p8 a.it.length k8) (.slice p9 a.el.length k9) W→Hid (XL xb fb w0.heap.size W u M)→Hid (Blk W B [.int .i64 F.op,.int .i64 F.n,.string F.nm,.slice p5 F.args.length k5]∧Av xb W B)→Calls Tryz.prog 132 #[vc,.int .i64 19,xv 4 0 ⟨#[]⟩ (.slice (some ⟨B,0,none⟩) 1 1)] W fun e w'=>∃ b,e=.returned (.pointer (some ⟨b,0,none⟩))∧S9 w0 xb w6 w.heap.size wr.heap.size w5.heap.size (.func (.func f) #[] caps) cs F.op F.n F.nm (.slice p5 F.args.length k5) (.slice p8 a.it.length k8) (.slice p9 a.el.length k9) w'∧Hid (XL xb fb w0.heap.size w' u M)∧Hid (CondS (Av xb w') w' (.pointer (some ⟨b,0,none⟩)) (some (und q 19 (notE F))))) :=
       Lh fun W u M B h hx hB=>(under_any (Av xb W) q 19 (notE F) vc _ W (fun b hb=>hb.1) (CD6.out.eq h.r.kx.keep) (one_arg hB.out.2 hB.out.1 (exsEq h.r.kx.keep HEX6.out)) HQ3.out).mono fun e w' ⟨b,h1,h2,h3⟩=>⟨b,h1,KE.out _ _ h h3,Lh (hx.out.below h3),Lh (h2.up hx.out h3)⟩
      have KA1:Hid (∀ W u M b,S9 w0 xb w6 w.heap.size wr.heap.size w5.heap.size (.func (.func f) #[] caps) cs F.op F.n F.nm (.slice p5 F.args.length k5) (.slice p8 a.it.length k8) (.slice p9 a.el.length k9) W→Hid (XL xb fb w0.heap.size W u M∧(M.length:Int)+cntL fs a.it≤1000)→Hid (CondS (Av xb W) W (.pointer (some ⟨b,0,none⟩)) (some (und q 19 F)))→Calls Tryz.prog 87 #[.pointer (some ⟨xb,0,none⟩),.slice p8 a.it.length k8,.pointer (some ⟨b,0,none⟩),.func (.func f) #[] caps] W fun e w'=>e=.returned (.tuple #[])∧S9 w0 xb w6 w.heap.size wr.heap.size w5.heap.size (.func (.func f) #[] caps) cs F.op F.n F.nm (.slice p5 F.args.length k5) (.slice p8 a.it.length k8) (.slice p9 a.el.length k9) w'∧Hid (∃ u' M2,XL xb fb w0.heap.size w' u' (M++M2)∧M2.map Pc.x=exL fs (some (und q 19 F)) σ a.it)) :=
       Lh fun W u M b h hx hc=>((HIH.out a hmem).1 k' (some (und q 19 F)) σ f caps _ u _ M W hd1 (by omega) hszi.1 hsme.2.1 HVA.out.its h.r.lo hx.out.1 (FC6.out.later h.r.kx) HSG.out hc.out HQ1.out hx.out.2).mono fun e w' ⟨h1,u',M2,h2,h3,h4,h5⟩=>⟨h1,S9.of q8 q9 (h.r.keep h4 h2.lt h5),Lh ⟨u',M2,h2,h3⟩⟩
      have KA2:Hid (∀ W u M b,S9 w0 xb w6 w.heap.size wr.heap.size w5.heap.size (.func (.func f) #[] caps) cs F.op F.n F.nm (.slice p5 F.args.length k5) (.slice p8 a.it.length k8) (.slice p9 a.el.length k9) W→Hid (XL xb fb w0.heap.size W u M∧(M.length:Int)+cntL fs a.el≤1000)→Hid (CondS (Av xb W) W (.pointer (some ⟨b,0,none⟩)) (some (und q 19 (notE F))))→Calls Tryz.prog 87 #[.pointer (some ⟨xb,0,none⟩),.slice p9 a.el.length k9,.pointer (some ⟨b,0,none⟩),.func (.func f) #[] caps] W fun e w'=>e=.returned (.tuple #[])∧S9 w0 xb w6 w.heap.size wr.heap.size w5.heap.size (.func (.func f) #[] caps) cs F.op F.n F.nm (.slice p5 F.args.length k5) (.slice p8 a.it.length k8) (.slice p9 a.el.length k9) w'∧Hid (∃ u' M2,XL xb fb w0.heap.size w' u' (M++M2)∧M2.map Pc.x=exL fs (some (und q 19 (notE F))) σ a.el)) :=
       Lh fun W u M b h hx hc=>((HIH.out a hmem).2 k' (some (und q 19 (notE F))) σ f caps _ u _ M W hd2 (by omega) hszi.2 hsme.2.2 HVA.out.els h.r.lo hx.out.1 (FC6.out.later h.r.kx) HSG.out hc.out HQ2.out hx.out.2).mono fun e w' ⟨h1,u',M2,h2,h3,h4,h5⟩=>⟨h1,S9.of q8 q9 (h.r.keep h4 h2.lt h5),Lh ⟨u',M2,h2,h3⟩⟩
      have HN1:(((L++L2).length:Nat):Int)+cntL fs a.it≤1000:=(by have:=cnt_pos fs HS.out a.el;have:=HC4.out;omega);have HN2:Hid (∀ M2:List Pc,M2.map Pc.x=exL fs (some (und q 19 F)) σ a.it→(((L++L2++M2).length:Nat):Int)+cntL fs a.el≤1000):=Lh fun M2 hM=>by
       have e1:=exL_len fs HS.out a.it (some (und q 19 F)) σ;rw [←hM,List.length_map] at e1;have:=HC4.out;rw [List.length_append];omega
      clear HIH hsme RA6 HQ1 HQ2 HQ3 HVA FC6 CD6 HEX6 q8 q9 hd1 hd2 hFsz hse k46
      go_region_held3 (fun W=>W.cell? ⟨wr.heap.size,8,none⟩=some (.slice p8 a.it.length k8)∧W.cell? ⟨wr.heap.size,9,none⟩=some (.slice p9 a.el.length k9)∧W.cell? ⟨w5.heap.size,0,none⟩=some (.int .i64 F.op)∧W.cell? ⟨w5.heap.size,1,none⟩=some (.int .i64 F.n)∧W.cell? ⟨w5.heap.size,2,none⟩=some (.string F.nm)∧W.cell? ⟨w5.heap.size,3,none⟩=some (.slice p5 F.args.length k5) ∧
       W.cell? ⟨w.heap.size,0,none⟩=some (.func (.func f) #[] caps)∧RA w0 xb w6 w.heap.size wr.heap.size w5.heap.size (.func (.func f) #[] caps) cs [.int .i64 F.op,.int .i64 F.n,.string F.nm,.slice p5 F.args.length k5] W)
       (first | with_reducible assumption | fail)
       (first
        |(go_at_call 132;(with_reducible refine (KU.out _ v' (L++L2) ?_ ?_).mono ?_);assumption;assumption;rintro x w7 ⟨b7,rfl,hg7,hx7,hc7⟩)
        |(go_at_call 87;(with_reducible refine (KA1.out _ _ _ _ ?_ (Lh ⟨hx7.out,HN1⟩) hc7).mono ?_);assumption;rintro x w8 ⟨rfl,hg8,hx8⟩))
      obtain⟨u8,M8,hxl8,hm8⟩:=hx8.out;have HN8:=HN2.out M8 hm8;have HM8:=Lh hm8;have X8:=Lh hxl8;have s8:=hg8;clear s6 s6d x6 x6d hg7 hx7 hc7 hx8 hm8 hxl8 HN1 HN2 KU KA1 hg8;go_wp2;have s8d:=KE.out _ w8.drew s8 (Below.refl _ _).drew;have s9:=KE.out _ (w8.alloc (.cells #[.int .i64 F.op,.int .i64 F.n,.string F.nm,.slice p5 F.args.length k5] 43)).drew s8 ((ba _ _).then_ (Below.refl _ _).drew);have x9:Hid (XL xb fb w0.heap.size (w8.alloc (.cells #[.int .i64 F.op,.int .i64 F.n,.string F.nm,.slice p5 F.args.length k5] 43)).drew u8 (L++L2++M8)):=Lh (X8.out.below ((ba _ _).then_ (Below.refl _ _).drew));have b9:Hid (Blk (w8.alloc (.cells #[.int .i64 F.op,.int .i64 F.n,.string F.nm,.slice p5 F.args.length k5] 43)).drew w8.heap.size [.int .i64 F.op,.int .i64 F.n,.string F.nm,.slice p5 F.args.length k5]∧Av xb (w8.alloc (.cells #[.int .i64 F.op,.int .i64 F.n,.string F.nm,.slice p5 F.args.length k5] 43)).drew w8.heap.size):=Lh ⟨(Blk.new w8 [.int .i64 F.op,.int .i64 F.n,.string F.nm,.slice p5 F.args.length k5] 43).stay (Below.refl _ _).drew,Av.fresh X8.out ((ba _ _).then_ (Below.refl _ _).drew) (Nat.le_refl _) (by show w8.heap.size<(w8.alloc _).heap.size;rw [World.size_alloc];exact Nat.lt_succ_self _)⟩
      go_region_held3 (fun W=>W.cell? ⟨wr.heap.size,8,none⟩=some (.slice p8 a.it.length k8)∧W.cell? ⟨wr.heap.size,9,none⟩=some (.slice p9 a.el.length k9)∧W.cell? ⟨w5.heap.size,0,none⟩=some (.int .i64 F.op)∧W.cell? ⟨w5.heap.size,1,none⟩=some (.int .i64 F.n)∧W.cell? ⟨w5.heap.size,2,none⟩=some (.string F.nm)∧W.cell? ⟨w5.heap.size,3,none⟩=some (.slice p5 F.args.length k5) ∧
       W.cell? ⟨w.heap.size,0,none⟩=some (.func (.func f) #[] caps)∧RA w0 xb w6 w.heap.size wr.heap.size w5.heap.size (.func (.func f) #[] caps) cs [.int .i64 F.op,.int .i64 F.n,.string F.nm,.slice p5 F.args.length k5] W)
       (first | with_reducible assumption | fail)
       (first
        |(go_at_call 132;(with_reducible refine (KU2.out _ u8 (L++L2++M8) w8.heap.size ?_ ?_ ?_).mono ?_);assumption;assumption;assumption;rintro x w10 ⟨b10,rfl,hg10,hx10,hc10⟩)
        |(go_at_call 87;(with_reducible refine (KA2.out _ _ _ _ ?_ (Lh ⟨hx10.out,HN8⟩) hc10).mono ?_);assumption;rintro x w11 ⟨rfl,hg11,hx11⟩))
      obtain⟨u11,M11,hxl11,hm11⟩:=hx11.out;have HREL:Hid (∃ v' L2,XL xb fb w0.heap.size w11 v' (L++L2)∧L2.map Pc.x=exL fs q σ (l.take (j+1))∧KX xb w1 w11∧Below w0.heap.size w0 w11):=Lh ⟨u11,L2++M8++M11,by rw [←List.append_assoc,←List.append_assoc];exact hxl11,by rw [HTK.out,HEX.out,List.map_append,List.map_append,LW.out,HM8.out,hm11,List.append_assoc],KW6.out.trans hg11.r.kx,hg11.r.lo⟩;clear s8 s8d x9 s9 b9 hg10 hx10 hc10 hg11 hx11 hxl11 hm11 KU2 KA2 KE;go_wp2;go_roundw
      case rel =>
       obtain⟨v9,L9,r1,r2,r3,r4⟩:=HREL.out;exact⟨j+1,v9,L9,by omega,by go_num,Lh r1,Lh r2,Lh r3,Lh r4⟩
      case measure=>simp [intOf];omega
     ·have f4:(kd == 4)=false:=(by rw [beq_eq_false_iff_ne];exact h4);by_cases h5:kd=5
      ·subst h5;have HEX:Hid (exI fs q σ a=(List.range (szI fs a.nm).toNat).flatMap (fun (k:Nat)=>exL fs q (fun e=>su a.ix (cst (k:Int)) (σ e)) a.it)):=Lh (by rw [HEI.out,if_neg (by decide),if_pos rfl]);have hsz:=cntL_bound fs HS.out a.nm;have hC0:=cnt_pos fs HS.out a.it;have HC5:Hid (c=cntL fs a.it*szI fs a.nm):=Lh (by have:=HCE.out;rw [cntI_eq,hkd,if_neg (by decide),if_pos rfl,show min (szI fs a.nm) 401=szI fs a.nm by omega] at this;exact this.symm);obtain⟨n,hn⟩:∃ n:Nat,szI fs a.nm=n:=⟨(szI fs a.nm).toNat,by omega⟩;have HLN:Hid (∀ (m:Nat) (M:List Pc),M.map Pc.x=(List.range m).flatMap (fun (k:Nat)=>exL fs q (fun e=>su a.ix (cst (k:Int)) (σ e)) a.it)→m<n→(((L++L2++M).length:Nat):Int)+cntL fs a.it≤1000):=Lh fun m M hM hmn=>by
        have e1:∀ k:Nat,(exL fs q (fun e=>su a.ix (cst (k:Int)) (σ e)) a.it).length=(cntL fs a.it).toNat:=(fun k=>by have:=exL_len fs HS.out a.it q (fun e=>su a.ix (cst (k:Int)) (σ e));omega);have e2:=flat_range _ _ e1 m;rw [←hM,List.length_map] at e2;have e3:(m+1)*(cntL fs a.it).toNat≤n*(cntL fs a.it).toNat:=Nat.mul_le_mul_right _ hmn;have e4:c=((n*(cntL fs a.it).toNat:Nat):Int):=(by rw [HC5.out,hn,Int.natCast_mul,Int.toNat_of_nonneg hC0,Int.mul_comm]);rw [Nat.succ_mul] at e3;rw [List.length_append];omega
       have hnm:=HVA.out.nm;have hlk:∀ W,Below w4.heap.size w4 W→(Instr.lookup 79 (.map (some fb)) (.string a.nm) false).run Tryz.prog W=.ok (.int .i64 n) W:=fun W hW=>by
        rw [←hn];exact (HF.out.later (BW4.out.trans (hW.mono BW4.out.size))).look a.nm hnm
       have hn8:n≤8:=(by omega);have HQ5:Hid (∀ e,q=some e→sz e+1002*k'≤9000):=(Lh fun e he=>by have:=HQS.out e he;omega);have HNN:Hid ((szI fs a.nm).toNat=n):=Lh (by omega);have HLK:=Lh hlk;clear HCZ HEI hkd c1 c2 c3 c4 K1 hsz hn hlk hC0 h4;have x0:=X4.out.bx.c 0 _ rfl;have c5:=F9.out.c 5 _ rfl;have r0:=cell_regrown x0;have r5:=cell_regrown c5;have hlkR:∀ d os,(Instr.lookup 79 (.map (some fb)) (.string a.nm) false).run Tryz.prog (grow (redrawn w4 d) os)=.ok (.int .i64 n) (grow (redrawn w4 d) os):=(fun d os=>HLK.out _ (below_regrown _ d os));go_wp2;refine wp_region_quiet_below (by kernel_rfl) (by kernel_rfl) ?_;repeat (first | go_big_quiet_step (fail) | quiet_step (fail))
       refine wpQuiet_nil ?_;intro w5 hw';obtain⟨pq5,hw''⟩:=hw';have hb45:Below w4.heap.size w4 w5:=(by rw [hw''];exact below_regrown _ _ _);have hs5:=hb45.size;have X5:=Lh (X4.out.below hb45);have k45:=KX.of_below X4.out.bx.lt hb45;have KW5:=Lh (KW4.out.trans k45);have BW5:=Lh (BW4.out.trans (hb45.mono BW4.out.size));have FC5:=Lh (FC4.out.later k45);have CD5:=Lh (CD4.out.eq k45.keep);have B75:=Lh (B7.out.stay hb45);have F95:=Lh (F9.out.stay hb45);have A75:=Lh (k45.keep _ A7.out).1;have A95:=Lh (k45.keep _ A9.out).1;clear hw'' hb45 k45 x0 c5 r0 r5 hlkR HLK c0 c7 X4 KW4 BW4 FC4 CD4 B7 F9 A7 A9;go_wp2;obtain⟨wq,rfl⟩:∃ x,x=wr:=⟨_,rfl⟩;rw [hc1];clear hc0 hc1;go_loopw [73] (fun i wx=>∃ m:Nat,∃ u M,m≤n∧i=.int .i64 m∧Hid (XL xb fb w0.heap.size wx u (L++L2++M))∧Hid (M.map Pc.x=(List.range m).flatMap (fun (k:Nat)=>exL fs q (fun e=>su a.ix (cst (k:Int)) (σ e)) a.it))∧Hid (KX xb w5 wx)∧Hid (Below w0.heap.size w0 wx)) (fun i _=>n - (intOf i).toNat)
       case atStart=>exact⟨0,v',[],Nat.zero_le _,rfl,by rw [List.append_nil];exact X5,Lh rfl,Lh (KX.refl _ _),BW5⟩
       case round =>
        obtain⟨m,u,M,hm,rfl,XM,LM,KM,BM⟩:=hrel;by_cases hmn:m<n
        ·have hbx:=ba wr (.cells #[.int .i64 (m:Int)] 3);have B11:=Blk.new wr [.int .i64 (m:Int)] 3;have hzx:=World.size_alloc wr (.cells #[.int .i64 (m:Int)] 3);obtain⟨wy,hwy⟩:∃ wy,wr.alloc (.cells #[.int .i64 (m:Int)] 3)=wy:=⟨_,rfl⟩;simp only [List.toArray] at B11;rw [hwy] at hbx B11 hzx;have XY:=Lh (XM.out.below hbx);have kxy:=KX.of_below XM.out.bx.lt hbx;have k5y:=KM.out.trans kxy;have BY:=Lh (BM.out.trans (hbx.mono BM.out.size));have B7y:=blk_eq B75.out (k5y.keep _ A75.out).2;have B9y:=blk_eq F95.out (k5y.keep _ A95.out).2;have FY:=Lh (FixC.step (ix:=a.ix) (FC5.out.later k5y) HSG.out XY.out.bx.lt B7y B9y rfl B11 (k5y.keep _ A75.out).1 (k5y.keep _ A95.out).1 (Av.fresh XM.out hbx (Nat.le_refl _) (by omega)));have d8:=B9y.c 8 _ rfl;have CA:=Lh ((HIH.out a hmem).1 k' q (fun e=>su a.ix (cst (m:Int)) (σ e)) 133 #[.pointer (some ⟨w.heap.size,0,none⟩),.pointer (some ⟨wq.heap.size,0,none⟩),.pointer (some ⟨wr.heap.size,0,none⟩)] vc u _ (L++L2++M) wy hd1 (by omega) hszi.1 hsme.2.1 HVA.out.its BY.out XY.out FY.out (fix_sz HSG.out a.ix m) (CD5.out.eq k5y.keep) HQ5.out (HLN.out m M LM.out hmn));have K5Y:=Lh k5y;clear B7y B9y B11 hbx kxy k5y XY BY FY XM KM BM;have hm18:m≤8:=(by omega);go_wp2_with (first
          |(go_at_call 87;(with_reducible refine CA.out.mono ?_);rintro x w8 ⟨rfl,u8,M8,hx8,hm8,hk8,hb8⟩;have X8:=Lh hx8;have M8':=Lh hm8;have K8:=Lh hk8;have B8:=Lh hb8;clear hx8 hm8 hk8 hb8))
         go_roundw
         case rel=>exact⟨m+1,u8,M++M8,by omega,by go_num,Lh (by rw [←List.append_assoc];exact X8.out),Lh (by rw [List.map_append,LM.out,M8'.out,List.range_succ,List.flatMap_append,List.flatMap_cons,List.flatMap_nil,List.append_nil]),Lh (K5Y.out.trans K8.out),B8⟩
         case measure=>simp [intOf];omega
        ·have hmn2:m=n:=(by omega);have HREL:Hid (∃ v' L2,XL xb fb w0.heap.size wr v' (L++L2)∧L2.map Pc.x=exL fs q σ (l.take (j+1))∧KX xb w1 wr∧Below w0.heap.size w0 wr):=Lh ⟨u,L2++M,by rw [←List.append_assoc];exact XM.out,by rw [HTK.out,HEX.out,List.map_append,LW.out,LM.out,HNN.out,hmn2],KW5.out.trans KM.out,BM.out⟩;clear hmn2;go_wp2;go_roundw
         case rel =>
          obtain⟨v9,L9,r1,r2,r3,r4⟩:=HREL.out;exact⟨j+1,v9,L9,by omega,by go_num,Lh r1,Lh r2,Lh r3,Lh r4⟩
         case measure=>simp [intOf];omega
      ·have f5:(kd == 5)=false:=(by rw [beq_eq_false_iff_ne];exact h5);by_cases h12:kd=1∨kd=2
       ·have HEX:Hid (exI fs q σ a=[hardI kd (und q 21 (σ a.e))]):=Lh (by rw [HEI.out,if_neg h4,if_neg h5,if_pos h12]);have hcl:(L++L2).length+1≤1000:=by
         have:=HCE.out;rw [cntI_eq,hkd,if_neg h4,if_neg h5] at this;omega
        have HQ3:Hid (∀ c,q=some c→sz c≤10000):=(Lh fun c hc=>by have:=HQS.out c hc;omega);obtain⟨N,hN⟩:∃ N,(L++L2).length=N:=⟨_,rfl⟩;have HN:=Lh hN;rw [hN] at hcl;have XR:Hid (w4.ownsRow w0.heap.size 55 12 v' N ((L++L2).flatMap pcC)):=Lh (by rw [←hN];exact X4.out.row);obtain⟨qv,cv,rfl⟩:=own_len XR.out;obtain⟨i0,hi,iz0,iz1,iz2⟩:=info_parts infoIt;clear HIH HEI HCZ hkd hN hsme hd1 hd2 HVA;generalize σ a.e=F at *
        obtain⟨U,hU⟩:∃ U,und q 21 F=U:=⟨_,rfl⟩;have HU:=Lh hU;rw [hU] at HEX;clear hU;rcases h12 with rfl | rfl
        ·go_wp2_with (first
          |(go_at_call 132;(with_reducible refine (UN.out).mono ?_);rintro x w6 ⟨bc,rfl,hcd6,hb6⟩)
          |((with_reducible refine K1.out.mono ?_);rintro x w5 ⟨v5,rfl,hfr5,hb5⟩;obtain⟨p5,k5,rfl,h5s,h5c⟩:=hfr5.form;have hs5:=hb5.size;have HB5:=Lh hb5;have X5:=Lh (X4.out.below hb5);have k45:=KX.of_below X4.out.bx.lt hb5;have UN:=Lh (under_any (Av xb w5) q 21 F vc _ w5 (fun b hb=>hb.1) (CD4.out.eq k45.keep) (fr_av hfr5 (Nat.le_refl _) X4.out hb5) HQ3.out);clear hb5 hfr5 k45))
         have hcu:=hcd6.up X5.out hb6;rw [HU.out] at hcu;obtain⟨_,pE,kE,ev,hav6,hf6,hex6⟩:=hcu;cases ev;have b46:=HB5.out.then_ hb6;have X6:=Lh (X5.out.below hb6);have F96:=F9.out.stay b46;have A96:=((KX.of_below X4.out.bx.lt b46).keep _ A9.out).1;have KW6:=Lh (KW4.out.trans (KX.of_below X4.out.bx.lt b46));have BW6:=Lh (BW4.out.trans (b46.mono BW4.out.size));have x1:=X6.out.bx.c 1 _ rfl;have fx1:=X6.out.bx.f 1;have y0:=F96.c 0 _ rfl;have g0':=hf6.c0;have g1':=hf6.c1;have g2':=hf6.c2;have g3':=hf6.c3;have hb71:=Lh ((ba w6 (.cells #[.int .i64 0,.int .i64 0,.int .i64 0,.string ⟨#[]⟩,.slice none 0 0,.string ⟨#[]⟩,.string ⟨#[]⟩,.slice none 0 0,.slice none 0 0,.slice none 0 0,.slice none 0 0,.slice none 0 0] 55)).drew);have HW1:Hid (((w6.alloc (.cells #[.int .i64 0,.int .i64 0,.int .i64 0,.string ⟨#[]⟩,.slice none 0 0,.string ⟨#[]⟩,.string ⟨#[]⟩,.slice none 0 0,.slice none 0 0,.slice none 0 0,.slice none 0 0,.slice none 0 0] 55)).drew).heap.size=w6.heap.size+1):=Lh (World.size_alloc w6 _);have XR7:=Lh (own_later (own_later XR.out b46) hb71.out);have BX71:=(X6.out.bx.stay hb71.out).c 1 _ rfl;have FX71:=(X6.out.bx.stay hb71.out).f 1;have hl9:=A96.1;have hlc:=hav6.1;have hb07:w0.heap.size≤((w6.alloc (.cells #[.int .i64 0,.int .i64 0,.int .i64 0,.string ⟨#[]⟩,.slice none 0 0,.string ⟨#[]⟩,.string ⟨#[]⟩,.slice none 0 0,.slice none 0 0,.slice none 0 0,.slice none 0 0,.slice none 0 0] 55)).drew).heap.size:=Nat.le_trans BW6.out.size hb71.out.size;clear c0 c1 c2 c3 c4 c7 K1 XR hcd6 HU UN F96 hf6 b46 hb6 HB5 X5 B7 A7 FC4 CD4 HQ3 F9;refine wp_region_noPanic ?_;refine wp_region_held_drew (S:=Two2 w6 wr.heap.size bc) (by kernel_rfl) ⟨rfl,rfl⟩ (fun hHeld=>?_);refine wpAnyH_take (i:=0) (v:=(.pointer (some ⟨xb,0,none⟩))) rfl (by kernel_rfl) (by kernel_rfl) (by kernel_rfl) (fun _ _ _ h=>h) (Or.inl ⟨by rfl,?_⟩) hHeld ?_
         ·intro W hSw
          go_simp
         (try simp only [Act.put,List.setIfInBounds_toArray])
         refine wpAnyH_take (i:=1) (v:=(.pointer (some ⟨xb,0,none⟩))) rfl (by kernel_rfl) (by kernel_rfl) (by kernel_rfl) (fun _ _ _ h=>h) (Or.inl ⟨by rfl,?_⟩) hHeld ?_
         ·intro W hSw
          go_simp
         (try simp only [Act.put])
         refine wpAnyH_take (i:=2) (v:=(.pointer (some ⟨xb,1,none⟩))) rfl (by kernel_rfl) (by kernel_rfl) (by kernel_rfl) (fun _ _ _ h=>h) (Or.inl ⟨by rfl,?_⟩) hHeld ?_
         ·intro W hSw
          go_simp
         (try simp only [Act.put])
         refine wpAnyH_take (i:=4) (v:=(.pointer (some ⟨wr.heap.size,0,none⟩))) rfl (by kernel_rfl) (by kernel_rfl) (by kernel_rfl) (fun _ _ _ h=>h) (Or.inl ⟨by rfl,?_⟩) hHeld ?_
         ·intro W hSw
          go_simp
         (try simp only [Act.put])
         refine wpAnyH_take (i:=5) (v:=(.int .i64 1)) rfl (by kernel_rfl) (by kernel_rfl) (by kernel_rfl) (fun _ _ _ h=>h) (Or.inl ⟨by rfl,?_⟩) hHeld ?_
         ·intro W hSw;have e0:=(World.cell?_of_block hSw.1).trans y0
          go_simp
         (try simp only [Act.put])
         refine wpAnyH_take (i:=6) (v:=(.pointer (some ⟨bc,0,none⟩))) rfl (by kernel_rfl) (by kernel_rfl) (by kernel_rfl) (fun _ _ _ h=>h) (Or.inl ⟨by rfl,?_⟩) hHeld ?_
         ·intro W hSw
          go_simp
         (try simp only [Act.put])
         refine wpAnyH_take (i:=7) (v:=(.pointer (some ⟨bc,0,none⟩))) rfl (by kernel_rfl) (by kernel_rfl) (by kernel_rfl) (fun _ _ _ h=>h) (Or.inl ⟨by rfl,?_⟩) hHeld ?_
         ·intro W hSw
          go_simp
         (try simp only [Act.put])
         refine wpAnyH_take (i:=8) (v:=(.agg #[.int .i64 U.op,.int .i64 U.n,.string U.nm,.slice pE U.args.length kE])) rfl (by kernel_rfl) (by kernel_rfl) (by kernel_rfl) (fun _ _ _ h=>h) (Or.inl ⟨by rfl,?_⟩) hHeld ?_
         ·intro W hSw;have e0:=(World.cell?_of_block hSw.2).trans g0';have e1:=(World.cell?_of_block hSw.2).trans g1';have e2:=(World.cell?_of_block hSw.2).trans g2';have e3:=(World.cell?_of_block hSw.2).trans g3'
          go_simp
         (try simp only [Act.put])
         refine wpAnyH_take (i:=9) (v:=(.agg #[.int .i64 1,.int .i64 U.op,.int .i64 U.n,.string U.nm,.slice pE U.args.length kE,.string ⟨#[]⟩,.string ⟨#[]⟩,.slice none 0 0,.slice none 0 0,.slice none 0 0,.slice none 0 0,.slice none 0 0])) rfl (by kernel_rfl) (by kernel_rfl) (by kernel_rfl) (fun _ _ _ h=>h) (Or.inl ⟨by rfl,?_⟩) hHeld ?_
         ·intro W hSw
          go_simp
         (try simp only [Act.put])
         refine wpAnyH_ready (rs:=[3,11]) (by kernel_rfl) (by simp) (AllReadyH.cons rfl (fun K hK=>?_) (AllReadyH.cons rfl (fun K hK=>?_) AllReadyH.nil))
         ·go_simp
          refine hK.out _ _ hHeld (fun hHeld=>?_);clear hK K
          (try simp only [Act.put]);(try simp only [List.setIfInBounds_toArray]);(try simp only [List.set_cons_succ]);(try simp only [List.set_cons_zero])
          refine wpAnyH_take (i:=10) (v:=(.int .i64 N)) rfl (by kernel_rfl) (by kernel_rfl) (by kernel_rfl) (fun _ _ _ h=>h) (Or.inl ⟨by rfl,?_⟩) hHeld ?_
          ·intro W hSw
           go_simp
          (try simp only [Act.put,List.setIfInBounds_toArray])
          refine wpAnyH_ready (rs:=[11]) (by kernel_rfl) (by simp) (AllReadyH.cons rfl (fun K hK=>?_) AllReadyH.nil);have hT7:Two2 w6 wr.heap.size bc (((w6.alloc (.cells #[.int .i64 0,.int .i64 0,.int .i64 0,.string ⟨#[]⟩,.slice none 0 0,.string ⟨#[]⟩,.string ⟨#[]⟩,.slice none 0 0,.slice none 0 0,.slice none 0 0,.slice none 0 0,.slice none 0 0] 55)).drew)):=⟨hb71.out.block _ hl9,hb71.out.block _ hlc⟩
          go_simp
          refine hK.out _ _ hT7 (fun hHeld=>?_);clear hK K
          (try simp only [Act.put]);(try simp only [List.setIfInBounds_toArray]);(try simp only [List.set_cons_succ]);(try simp only [List.set_cons_zero])
          refine wpAnyH_ready (rs:=[12]) (by kernel_rfl) (by simp) (AllReadyH.cons rfl (fun K hK=>?_) AllReadyH.nil);refine step_append_lies _ (by rfl) (.tmp 95) (.tmp 103) 22 (by rfl) w0.heap.size 55 i0 (.agg #[.int .i64 0,.int .i64 0,.int .i64 0,.string ⟨#[]⟩,.slice none 0 0,.string ⟨#[]⟩,.string ⟨#[]⟩,.slice none 0 0,.slice none 0 0,.slice none 0 0,.slice none 0 0,.slice none 0 0]) 12 216 Tryz.underlying22 hi iz0 iz1 iz2 rfl (by decide) (.slice qv N cv) N ((L++L2).flatMap pcC) (by rfl) XR7.out ⟨w6.heap.size,0,none⟩ 1 1 [.int .i64 0,.int .i64 0,.int .i64 0,.string ⟨#[]⟩,.slice none 0 0,.string ⟨#[]⟩,.string ⟨#[]⟩,.slice none 0 0,.slice none 0 0,.slice none 0 0,.slice none 0 0,.slice none 0 0] (by rfl) rfl (World.news_of_block (cs:=#[.int .i64 0,.int .i64 0,.int .i64 0,.string ⟨#[]⟩,.slice none 0 0,.string ⟨#[]⟩,.string ⟨#[]⟩,.slice none 0 0,.slice none 0 0,.slice none 0 0,.slice none 0 0,.slice none 0 0]) (heap_alloc_new w6 _)) (one_12 _ _ _ _ _ (by simp [Value.oneCell'])) (by omega) (by unfold maxLen;omega) (by omega) hb07 (w6.heap.size+1) HW1.out ?_;intro g cap7 w7 hown hgr hat hlt;obtain⟨hgx,hap⟩:=row_apart X6.out hat (by omega);have hz7:=hgr.size;rw [HW1.out] at hz7;refine hK.out _ _ (Two2.grown hHeld (by rw [HW1.out];exact Nat.lt_succ_of_lt hl9) (by rw [HW1.out];exact Nat.lt_succ_of_lt hlc) hgr (hap _ A96).2 (hap _ hav6).2) (fun hHeld=>?_);clear hK K
          (try simp only [Act.put,List.setIfInBounds_toArray])
          obtain⟨n0,n1,n2,n3,n4,n5,n6,n7,n8,n9,n10,n11,f0,f1,f2,f3,f4,f5',f6,f7,f8,f9,f10,f11⟩:=own_new hown (by rw [flat_len pcC_len,HN.out]);have PS:=Lh (hardP_s (g:=g) X6.out hb71.out hgr 1 hex6);have bx7:w7.cell? ⟨xb,1,none⟩=some (.slice qv N cv):=(World.cell?_of_block (hgr.block xb (by rw [HW1.out];exact Nat.lt_succ_of_lt X6.out.bx.lt) (fun e=>X6.out.ne e.symm))).trans BX71;have fx7:w7.frozen? ⟨xb,1,none⟩=false:=(World.frozen?_of_block (hgr.block xb (by rw [HW1.out];exact Nat.lt_succ_of_lt X6.out.bx.lt) (fun e=>X6.out.ne e.symm))).trans FX71;have hxg:xb≠g:=(fun e=>hgx e.symm);have P1:=Lh (X6.out.push (W1:=((w6.alloc (.cells #[.int .i64 0,.int .i64 0,.int .i64 0,.string ⟨#[]⟩,.slice none 0 0,.string ⟨#[]⟩,.string ⟨#[]⟩,.slice none 0 0,.slice none 0 0,.slice none 0 0,.slice none 0 0,.slice none 0 0] 55)).drew)) HN.out hxb BW6.out.size hb71.out hown hgr (by rw [HW1.out];exact hat) (Below.refl _ _) PS.out (hardP_c 1 U pE kE));have P2:=Lh (X6.out.push2 (W1:=((w6.alloc (.cells #[.int .i64 0,.int .i64 0,.int .i64 0,.string ⟨#[]⟩,.slice none 0 0,.string ⟨#[]⟩,.string ⟨#[]⟩,.slice none 0 0,.slice none 0 0,.slice none 0 0,.slice none 0 0,.slice none 0 0] 55)).drew)) HN.out hxb BW6.out.size hb71.out hown hgr (by rw [HW1.out];exact hat) (Below.refl _ _) hgx PS.out (hardP_c 1 U pE kE));have ha9:=(hap _ A96).1;have hac:=(hap _ hav6).1;clear hown hgr hat PS;refine wpAnyH_take (i:=13) (v:=(.pointer (some ⟨g,N*12,none⟩))) rfl (by kernel_rfl) (by kernel_rfl) (by kernel_rfl) (fun _ _ _ h=>h) (Or.inl ⟨by rfl,?_⟩) hHeld ?_
          ·intro W hSw
           go_simp
           (intro hh;exfalso;omega)
          (try simp only [Act.put])
          refine wpAnyH_take (i:=15) (v:=(.pointer (some ⟨xb,0,none⟩))) rfl (by kernel_rfl) (by kernel_rfl) (by kernel_rfl) (fun _ _ _ h=>h) (Or.inl ⟨by rfl,?_⟩) hHeld ?_
          ·intro W hSw
           go_simp
          (try simp only [Act.put])
          refine wpAnyH_take (i:=16) (v:=(.pointer (some ⟨xb,1,none⟩))) rfl (by kernel_rfl) (by kernel_rfl) (by kernel_rfl) (fun _ _ _ h=>h) (Or.inl ⟨by rfl,?_⟩) hHeld ?_
          ·intro W hSw
           go_simp
          (try simp only [Act.put])
          refine wpAnyH_ready (rs:=[14,17]) (by kernel_rfl) (by simp) (AllReadyH.cons rfl (fun K hK=>?_) (AllReadyH.cons rfl (fun K hK=>?_) AllReadyH.nil))
          ·go_simp
           refine hK.out _ _ (Two2.set12 hHeld ha9 hac _ _ _ _ _ _ _ _ _ _ _ _) (fun hHeld=>?_);clear hK K
           (try simp only [Act.put]);(try simp only [List.setIfInBounds_toArray]);(try simp only [List.set_cons_succ]);(try simp only [List.set_cons_zero])
           refine wpAnyH_ready (rs:=[17]) (by kernel_rfl) (by simp) (AllReadyH.cons rfl (fun K hK=>?_) AllReadyH.nil)
           go_simp
           refine hK.out _ _ (Two2.set hHeld (fun e=>A96.2.1 e) (fun e=>hav6.2.1 e) _) (fun hHeld=>?_);clear hK K
           (try simp only [Act.put]);(try simp only [List.setIfInBounds_toArray]);(try simp only [List.set_cons_succ]);(try simp only [List.set_cons_zero])
           refine wpAnyH_done (by kernel_rfl) ?_ _;refine NoPanic.normal ?_;have HREL:Hid (∃ v' L2',XL xb fb w0.heap.size _ v' (L++L2')∧L2'.map Pc.x=exL fs q σ (l.take (j+1))∧KX xb w1 _∧Below w0.heap.size w0 _):=Lh ⟨_,L2++[hardP 1 U pE kE],by rw [←List.append_assoc];exact P1.out.1,by rw [HTK.out,HEX.out,List.map_append,LW.out];rfl,KW6.out.trans P1.out.2.1,BW6.out.trans P1.out.2.2⟩;clear P1 P2;go_wp2;go_roundw
           case rel =>
            obtain⟨v9,L9,r1,r2,r3,r4⟩:=HREL.out;exact⟨j+1,v9,L9,by omega,by go_num,Lh r1,Lh r2,Lh r3,Lh r4⟩
           case measure=>simp [intOf];omega
          ·go_simp
           refine hK.out _ _ (Two2.set hHeld (fun e=>A96.2.1 e) (fun e=>hav6.2.1 e) _) (fun hHeld=>?_);clear hK K
           (try simp only [Act.put]);(try simp only [List.setIfInBounds_toArray]);(try simp only [List.set_cons_succ]);(try simp only [List.set_cons_zero])
           refine wpAnyH_ready (rs:=[14]) (by kernel_rfl) (by simp) (AllReadyH.cons rfl (fun K hK=>?_) AllReadyH.nil)
           go_simp
           refine hK.out _ _ (Two2.set12 hHeld ha9 hac _ _ _ _ _ _ _ _ _ _ _ _) (fun hHeld=>?_);clear hK K
           (try simp only [Act.put]);(try simp only [List.setIfInBounds_toArray]);(try simp only [List.set_cons_succ]);(try simp only [List.set_cons_zero])
           refine wpAnyH_done (by kernel_rfl) ?_ _;refine NoPanic.normal ?_;have HREL:Hid (∃ v' L2',XL xb fb w0.heap.size _ v' (L++L2')∧L2'.map Pc.x=exL fs q σ (l.take (j+1))∧KX xb w1 _∧Below w0.heap.size w0 _):=Lh ⟨_,L2++[hardP 1 U pE kE],by rw [←List.append_assoc];exact P2.out.1,by rw [HTK.out,HEX.out,List.map_append,LW.out];rfl,KW6.out.trans P2.out.2.1,BW6.out.trans P2.out.2.2⟩;clear P1 P2;go_wp2;go_roundw
           case rel =>
            obtain⟨v9,L9,r1,r2,r3,r4⟩:=HREL.out;exact⟨j+1,v9,L9,by omega,by go_num,Lh r1,Lh r2,Lh r3,Lh r4⟩
           case measure=>simp [intOf];omega
         ·have hT7:Two2 w6 wr.heap.size bc (((w6.alloc (.cells #[.int .i64 0,.int .i64 0,.int .i64 0,.string ⟨#[]⟩,.slice none 0 0,.string ⟨#[]⟩,.string ⟨#[]⟩,.slice none 0 0,.slice none 0 0,.slice none 0 0,.slice none 0 0,.slice none 0 0] 55)).drew)):=⟨hb71.out.block _ hl9,hb71.out.block _ hlc⟩
          go_simp
          refine hK.out _ _ hT7 (fun hHeld=>?_);clear hK K
          (try simp only [Act.put]);(try simp only [List.setIfInBounds_toArray]);(try simp only [List.set_cons_succ]);(try simp only [List.set_cons_zero])
          refine wpAnyH_ready (rs:=[3]) (by kernel_rfl) (by simp) (AllReadyH.cons rfl (fun K hK=>?_) AllReadyH.nil)
          go_simp
          refine hK.out _ _ hHeld (fun hHeld=>?_);clear hK K
          (try simp only [Act.put]);(try simp only [List.setIfInBounds_toArray]);(try simp only [List.set_cons_succ]);(try simp only [List.set_cons_zero])
          refine wpAnyH_take (i:=10) (v:=(.int .i64 N)) rfl (by kernel_rfl) (by kernel_rfl) (by kernel_rfl) (fun _ _ _ h=>h) (Or.inl ⟨by rfl,?_⟩) hHeld ?_
          ·intro W hSw
           go_simp
          (try simp only [Act.put,List.setIfInBounds_toArray])
          refine wpAnyH_ready (rs:=[12]) (by kernel_rfl) (by simp) (AllReadyH.cons rfl (fun K hK=>?_) AllReadyH.nil);refine step_append_lies _ (by rfl) (.tmp 95) (.tmp 103) 22 (by rfl) w0.heap.size 55 i0 (.agg #[.int .i64 0,.int .i64 0,.int .i64 0,.string ⟨#[]⟩,.slice none 0 0,.string ⟨#[]⟩,.string ⟨#[]⟩,.slice none 0 0,.slice none 0 0,.slice none 0 0,.slice none 0 0,.slice none 0 0]) 12 216 Tryz.underlying22 hi iz0 iz1 iz2 rfl (by decide) (.slice qv N cv) N ((L++L2).flatMap pcC) (by rfl) XR7.out ⟨w6.heap.size,0,none⟩ 1 1 [.int .i64 0,.int .i64 0,.int .i64 0,.string ⟨#[]⟩,.slice none 0 0,.string ⟨#[]⟩,.string ⟨#[]⟩,.slice none 0 0,.slice none 0 0,.slice none 0 0,.slice none 0 0,.slice none 0 0] (by rfl) rfl (World.news_of_block (cs:=#[.int .i64 0,.int .i64 0,.int .i64 0,.string ⟨#[]⟩,.slice none 0 0,.string ⟨#[]⟩,.string ⟨#[]⟩,.slice none 0 0,.slice none 0 0,.slice none 0 0,.slice none 0 0,.slice none 0 0]) (heap_alloc_new w6 _)) (one_12 _ _ _ _ _ (by simp [Value.oneCell'])) (by omega) (by unfold maxLen;omega) (by omega) hb07 (w6.heap.size+1) HW1.out ?_;intro g cap7 w7 hown hgr hat hlt;obtain⟨hgx,hap⟩:=row_apart X6.out hat (by omega);have hz7:=hgr.size;rw [HW1.out] at hz7;refine hK.out _ _ (Two2.grown hHeld (by rw [HW1.out];exact Nat.lt_succ_of_lt hl9) (by rw [HW1.out];exact Nat.lt_succ_of_lt hlc) hgr (hap _ A96).2 (hap _ hav6).2) (fun hHeld=>?_);clear hK K
          (try simp only [Act.put])
          obtain⟨n0,n1,n2,n3,n4,n5,n6,n7,n8,n9,n10,n11,f0,f1,f2,f3,f4,f5',f6,f7,f8,f9,f10,f11⟩:=own_new hown (by rw [flat_len pcC_len,HN.out]);have PS:=Lh (hardP_s (g:=g) X6.out hb71.out hgr 1 hex6);have bx7:w7.cell? ⟨xb,1,none⟩=some (.slice qv N cv):=(World.cell?_of_block (hgr.block xb (by rw [HW1.out];exact Nat.lt_succ_of_lt X6.out.bx.lt) (fun e=>X6.out.ne e.symm))).trans BX71;have fx7:w7.frozen? ⟨xb,1,none⟩=false:=(World.frozen?_of_block (hgr.block xb (by rw [HW1.out];exact Nat.lt_succ_of_lt X6.out.bx.lt) (fun e=>X6.out.ne e.symm))).trans FX71;have hxg:xb≠g:=(fun e=>hgx e.symm);have P1:=Lh (X6.out.push (W1:=((w6.alloc (.cells #[.int .i64 0,.int .i64 0,.int .i64 0,.string ⟨#[]⟩,.slice none 0 0,.string ⟨#[]⟩,.string ⟨#[]⟩,.slice none 0 0,.slice none 0 0,.slice none 0 0,.slice none 0 0,.slice none 0 0] 55)).drew)) HN.out hxb BW6.out.size hb71.out hown hgr (by rw [HW1.out];exact hat) (Below.refl _ _) PS.out (hardP_c 1 U pE kE));have P2:=Lh (X6.out.push2 (W1:=((w6.alloc (.cells #[.int .i64 0,.int .i64 0,.int .i64 0,.string ⟨#[]⟩,.slice none 0 0,.string ⟨#[]⟩,.string ⟨#[]⟩,.slice none 0 0,.slice none 0 0,.slice none 0 0,.slice none 0 0,.slice none 0 0] 55)).drew)) HN.out hxb BW6.out.size hb71.out hown hgr (by rw [HW1.out];exact hat) (Below.refl _ _) hgx PS.out (hardP_c 1 U pE kE));have ha9:=(hap _ A96).1;have hac:=(hap _ hav6).1;clear hown hgr hat PS;refine wpAnyH_take (i:=13) (v:=(.pointer (some ⟨g,N*12,none⟩))) rfl (by kernel_rfl) (by kernel_rfl) (by kernel_rfl) (fun _ _ _ h=>h) (Or.inl ⟨by rfl,?_⟩) hHeld ?_
          ·intro W hSw
           go_simp
           (intro hh;exfalso;omega)
          (try simp only [Act.put])
          refine wpAnyH_take (i:=15) (v:=(.pointer (some ⟨xb,0,none⟩))) rfl (by kernel_rfl) (by kernel_rfl) (by kernel_rfl) (fun _ _ _ h=>h) (Or.inl ⟨by rfl,?_⟩) hHeld ?_
          ·intro W hSw
           go_simp
          (try simp only [Act.put])
          refine wpAnyH_take (i:=16) (v:=(.pointer (some ⟨xb,1,none⟩))) rfl (by kernel_rfl) (by kernel_rfl) (by kernel_rfl) (fun _ _ _ h=>h) (Or.inl ⟨by rfl,?_⟩) hHeld ?_
          ·intro W hSw
           go_simp
          (try simp only [Act.put])
          refine wpAnyH_ready (rs:=[14,17]) (by kernel_rfl) (by simp) (AllReadyH.cons rfl (fun K hK=>?_) (AllReadyH.cons rfl (fun K hK=>?_) AllReadyH.nil))
          ·go_simp
           refine hK.out _ _ (Two2.set12 hHeld ha9 hac _ _ _ _ _ _ _ _ _ _ _ _) (fun hHeld=>?_);clear hK K
           (try simp only [Act.put]);(try simp only [List.setIfInBounds_toArray]);(try simp only [List.set_cons_succ]);(try simp only [List.set_cons_zero])
           refine wpAnyH_ready (rs:=[17]) (by kernel_rfl) (by simp) (AllReadyH.cons rfl (fun K hK=>?_) AllReadyH.nil)
           go_simp
           refine hK.out _ _ (Two2.set hHeld (fun e=>A96.2.1 e) (fun e=>hav6.2.1 e) _) (fun hHeld=>?_);clear hK K
           (try simp only [Act.put]);(try simp only [List.setIfInBounds_toArray]);(try simp only [List.set_cons_succ]);(try simp only [List.set_cons_zero])
           refine wpAnyH_done (by kernel_rfl) ?_ _;refine NoPanic.normal ?_;have HREL:Hid (∃ v' L2',XL xb fb w0.heap.size _ v' (L++L2')∧L2'.map Pc.x=exL fs q σ (l.take (j+1))∧KX xb w1 _∧Below w0.heap.size w0 _):=Lh ⟨_,L2++[hardP 1 U pE kE],by rw [←List.append_assoc];exact P1.out.1,by rw [HTK.out,HEX.out,List.map_append,LW.out];rfl,KW6.out.trans P1.out.2.1,BW6.out.trans P1.out.2.2⟩;clear P1 P2;go_wp2;go_roundw
           case rel =>
            obtain⟨v9,L9,r1,r2,r3,r4⟩:=HREL.out;exact⟨j+1,v9,L9,by omega,by go_num,Lh r1,Lh r2,Lh r3,Lh r4⟩
           case measure=>simp [intOf];omega
          ·go_simp
           refine hK.out _ _ (Two2.set hHeld (fun e=>A96.2.1 e) (fun e=>hav6.2.1 e) _) (fun hHeld=>?_);clear hK K
           (try simp only [Act.put]);(try simp only [List.setIfInBounds_toArray]);(try simp only [List.set_cons_succ]);(try simp only [List.set_cons_zero])
           refine wpAnyH_ready (rs:=[14]) (by kernel_rfl) (by simp) (AllReadyH.cons rfl (fun K hK=>?_) AllReadyH.nil)
           go_simp
           refine hK.out _ _ (Two2.set12 hHeld ha9 hac _ _ _ _ _ _ _ _ _ _ _ _) (fun hHeld=>?_);clear hK K
           (try simp only [Act.put]);(try simp only [List.setIfInBounds_toArray]);(try simp only [List.set_cons_succ]);(try simp only [List.set_cons_zero])
           refine wpAnyH_done (by kernel_rfl) ?_ _;refine NoPanic.normal ?_;have HREL:Hid (∃ v' L2',XL xb fb w0.heap.size _ v' (L++L2')∧L2'.map Pc.x=exL fs q σ (l.take (j+1))∧KX xb w1 _∧Below w0.heap.size w0 _):=Lh ⟨_,L2++[hardP 1 U pE kE],by rw [←List.append_assoc];exact P2.out.1,by rw [HTK.out,HEX.out,List.map_append,LW.out];rfl,KW6.out.trans P2.out.2.1,BW6.out.trans P2.out.2.2⟩;clear P1 P2;go_wp2;go_roundw
           case rel =>
            obtain⟨v9,L9,r1,r2,r3,r4⟩:=HREL.out;exact⟨j+1,v9,L9,by omega,by go_num,Lh r1,Lh r2,Lh r3,Lh r4⟩
           case measure=>simp [intOf];omega
        ·go_wp2_with (first
          |(go_at_call 132;(with_reducible refine (UN.out).mono ?_);rintro x w6 ⟨bc,rfl,hcd6,hb6⟩)
          |((with_reducible refine K1.out.mono ?_);rintro x w5 ⟨v5,rfl,hfr5,hb5⟩;obtain⟨p5,k5,rfl,h5s,h5c⟩:=hfr5.form;have hs5:=hb5.size;have HB5:=Lh hb5;have X5:=Lh (X4.out.below hb5);have k45:=KX.of_below X4.out.bx.lt hb5;have UN:=Lh (under_any (Av xb w5) q 21 F vc _ w5 (fun b hb=>hb.1) (CD4.out.eq k45.keep) (fr_av hfr5 (Nat.le_refl _) X4.out hb5) HQ3.out);clear hb5 hfr5 k45))
         have hcu:=hcd6.up X5.out hb6;rw [HU.out] at hcu;obtain⟨_,pE,kE,ev,hav6,hf6,hex6⟩:=hcu;cases ev;have b46:=HB5.out.then_ hb6;have X6:=Lh (X5.out.below hb6);have F96:=F9.out.stay b46;have A96:=((KX.of_below X4.out.bx.lt b46).keep _ A9.out).1;have KW6:=Lh (KW4.out.trans (KX.of_below X4.out.bx.lt b46));have BW6:=Lh (BW4.out.trans (b46.mono BW4.out.size));have x1:=X6.out.bx.c 1 _ rfl;have fx1:=X6.out.bx.f 1;have y0:=F96.c 0 _ rfl;have g0':=hf6.c0;have g1':=hf6.c1;have g2':=hf6.c2;have g3':=hf6.c3;have hb71:=Lh ((ba w6 (.cells #[.int .i64 0,.int .i64 0,.int .i64 0,.string ⟨#[]⟩,.slice none 0 0,.string ⟨#[]⟩,.string ⟨#[]⟩,.slice none 0 0,.slice none 0 0,.slice none 0 0,.slice none 0 0,.slice none 0 0] 55)).drew);have HW1:Hid (((w6.alloc (.cells #[.int .i64 0,.int .i64 0,.int .i64 0,.string ⟨#[]⟩,.slice none 0 0,.string ⟨#[]⟩,.string ⟨#[]⟩,.slice none 0 0,.slice none 0 0,.slice none 0 0,.slice none 0 0,.slice none 0 0] 55)).drew).heap.size=w6.heap.size+1):=Lh (World.size_alloc w6 _);have XR7:=Lh (own_later (own_later XR.out b46) hb71.out);have BX71:=(X6.out.bx.stay hb71.out).c 1 _ rfl;have FX71:=(X6.out.bx.stay hb71.out).f 1;have hl9:=A96.1;have hlc:=hav6.1;have hb07:w0.heap.size≤((w6.alloc (.cells #[.int .i64 0,.int .i64 0,.int .i64 0,.string ⟨#[]⟩,.slice none 0 0,.string ⟨#[]⟩,.string ⟨#[]⟩,.slice none 0 0,.slice none 0 0,.slice none 0 0,.slice none 0 0,.slice none 0 0] 55)).drew).heap.size:=Nat.le_trans BW6.out.size hb71.out.size;clear c0 c1 c2 c3 c4 c7 K1 XR hcd6 HU UN F96 hf6 b46 hb6 HB5 X5 B7 A7 FC4 CD4 HQ3 F9;refine wp_region_noPanic ?_;refine wp_region_held_drew (S:=Two2 w6 wr.heap.size bc) (by kernel_rfl) ⟨rfl,rfl⟩ (fun hHeld=>?_);refine wpAnyH_take (i:=0) (v:=(.pointer (some ⟨xb,0,none⟩))) rfl (by kernel_rfl) (by kernel_rfl) (by kernel_rfl) (fun _ _ _ h=>h) (Or.inl ⟨by rfl,?_⟩) hHeld ?_
         ·intro W hSw
          go_simp
         (try simp only [Act.put,List.setIfInBounds_toArray])
         refine wpAnyH_take (i:=1) (v:=(.pointer (some ⟨xb,0,none⟩))) rfl (by kernel_rfl) (by kernel_rfl) (by kernel_rfl) (fun _ _ _ h=>h) (Or.inl ⟨by rfl,?_⟩) hHeld ?_
         ·intro W hSw
          go_simp
         (try simp only [Act.put])
         refine wpAnyH_take (i:=2) (v:=(.pointer (some ⟨xb,1,none⟩))) rfl (by kernel_rfl) (by kernel_rfl) (by kernel_rfl) (fun _ _ _ h=>h) (Or.inl ⟨by rfl,?_⟩) hHeld ?_
         ·intro W hSw
          go_simp
         (try simp only [Act.put])
         refine wpAnyH_take (i:=4) (v:=(.pointer (some ⟨wr.heap.size,0,none⟩))) rfl (by kernel_rfl) (by kernel_rfl) (by kernel_rfl) (fun _ _ _ h=>h) (Or.inl ⟨by rfl,?_⟩) hHeld ?_
         ·intro W hSw
          go_simp
         (try simp only [Act.put])
         refine wpAnyH_take (i:=5) (v:=(.int .i64 2)) rfl (by kernel_rfl) (by kernel_rfl) (by kernel_rfl) (fun _ _ _ h=>h) (Or.inl ⟨by rfl,?_⟩) hHeld ?_
         ·intro W hSw;have e0:=(World.cell?_of_block hSw.1).trans y0
          go_simp
         (try simp only [Act.put])
         refine wpAnyH_take (i:=6) (v:=(.pointer (some ⟨bc,0,none⟩))) rfl (by kernel_rfl) (by kernel_rfl) (by kernel_rfl) (fun _ _ _ h=>h) (Or.inl ⟨by rfl,?_⟩) hHeld ?_
         ·intro W hSw
          go_simp
         (try simp only [Act.put])
         refine wpAnyH_take (i:=7) (v:=(.pointer (some ⟨bc,0,none⟩))) rfl (by kernel_rfl) (by kernel_rfl) (by kernel_rfl) (fun _ _ _ h=>h) (Or.inl ⟨by rfl,?_⟩) hHeld ?_
         ·intro W hSw
          go_simp
         (try simp only [Act.put])
         refine wpAnyH_take (i:=8) (v:=(.agg #[.int .i64 U.op,.int .i64 U.n,.string U.nm,.slice pE U.args.length kE])) rfl (by kernel_rfl) (by kernel_rfl) (by kernel_rfl) (fun _ _ _ h=>h) (Or.inl ⟨by rfl,?_⟩) hHeld ?_
         ·intro W hSw;have e0:=(World.cell?_of_block hSw.2).trans g0';have e1:=(World.cell?_of_block hSw.2).trans g1';have e2:=(World.cell?_of_block hSw.2).trans g2';have e3:=(World.cell?_of_block hSw.2).trans g3'
          go_simp
         (try simp only [Act.put])
         refine wpAnyH_take (i:=9) (v:=(.agg #[.int .i64 2,.int .i64 U.op,.int .i64 U.n,.string U.nm,.slice pE U.args.length kE,.string ⟨#[]⟩,.string ⟨#[]⟩,.slice none 0 0,.slice none 0 0,.slice none 0 0,.slice none 0 0,.slice none 0 0])) rfl (by kernel_rfl) (by kernel_rfl) (by kernel_rfl) (fun _ _ _ h=>h) (Or.inl ⟨by rfl,?_⟩) hHeld ?_
         ·intro W hSw
          go_simp
         (try simp only [Act.put])
         refine wpAnyH_ready (rs:=[3,11]) (by kernel_rfl) (by simp) (AllReadyH.cons rfl (fun K hK=>?_) (AllReadyH.cons rfl (fun K hK=>?_) AllReadyH.nil))
         ·go_simp
          refine hK.out _ _ hHeld (fun hHeld=>?_);clear hK K
          (try simp only [Act.put]);(try simp only [List.setIfInBounds_toArray]);(try simp only [List.set_cons_succ]);(try simp only [List.set_cons_zero])
          refine wpAnyH_take (i:=10) (v:=(.int .i64 N)) rfl (by kernel_rfl) (by kernel_rfl) (by kernel_rfl) (fun _ _ _ h=>h) (Or.inl ⟨by rfl,?_⟩) hHeld ?_
          ·intro W hSw
           go_simp
          (try simp only [Act.put,List.setIfInBounds_toArray])
          refine wpAnyH_ready (rs:=[11]) (by kernel_rfl) (by simp) (AllReadyH.cons rfl (fun K hK=>?_) AllReadyH.nil);have hT7:Two2 w6 wr.heap.size bc (((w6.alloc (.cells #[.int .i64 0,.int .i64 0,.int .i64 0,.string ⟨#[]⟩,.slice none 0 0,.string ⟨#[]⟩,.string ⟨#[]⟩,.slice none 0 0,.slice none 0 0,.slice none 0 0,.slice none 0 0,.slice none 0 0] 55)).drew)):=⟨hb71.out.block _ hl9,hb71.out.block _ hlc⟩
          go_simp
          refine hK.out _ _ hT7 (fun hHeld=>?_);clear hK K
          (try simp only [Act.put]);(try simp only [List.setIfInBounds_toArray]);(try simp only [List.set_cons_succ]);(try simp only [List.set_cons_zero])
          refine wpAnyH_ready (rs:=[12]) (by kernel_rfl) (by simp) (AllReadyH.cons rfl (fun K hK=>?_) AllReadyH.nil);refine step_append_lies _ (by rfl) (.tmp 95) (.tmp 103) 22 (by rfl) w0.heap.size 55 i0 (.agg #[.int .i64 0,.int .i64 0,.int .i64 0,.string ⟨#[]⟩,.slice none 0 0,.string ⟨#[]⟩,.string ⟨#[]⟩,.slice none 0 0,.slice none 0 0,.slice none 0 0,.slice none 0 0,.slice none 0 0]) 12 216 Tryz.underlying22 hi iz0 iz1 iz2 rfl (by decide) (.slice qv N cv) N ((L++L2).flatMap pcC) (by rfl) XR7.out ⟨w6.heap.size,0,none⟩ 1 1 [.int .i64 0,.int .i64 0,.int .i64 0,.string ⟨#[]⟩,.slice none 0 0,.string ⟨#[]⟩,.string ⟨#[]⟩,.slice none 0 0,.slice none 0 0,.slice none 0 0,.slice none 0 0,.slice none 0 0] (by rfl) rfl (World.news_of_block (cs:=#[.int .i64 0,.int .i64 0,.int .i64 0,.string ⟨#[]⟩,.slice none 0 0,.string ⟨#[]⟩,.string ⟨#[]⟩,.slice none 0 0,.slice none 0 0,.slice none 0 0,.slice none 0 0,.slice none 0 0]) (heap_alloc_new w6 _)) (one_12 _ _ _ _ _ (by simp [Value.oneCell'])) (by omega) (by unfold maxLen;omega) (by omega) hb07 (w6.heap.size+1) HW1.out ?_;intro g cap7 w7 hown hgr hat hlt;obtain⟨hgx,hap⟩:=row_apart X6.out hat (by omega);have hz7:=hgr.size;rw [HW1.out] at hz7;refine hK.out _ _ (Two2.grown hHeld (by rw [HW1.out];exact Nat.lt_succ_of_lt hl9) (by rw [HW1.out];exact Nat.lt_succ_of_lt hlc) hgr (hap _ A96).2 (hap _ hav6).2) (fun hHeld=>?_);clear hK K
          (try simp only [Act.put,List.setIfInBounds_toArray])
          obtain⟨n0,n1,n2,n3,n4,n5,n6,n7,n8,n9,n10,n11,f0,f1,f2,f3,f4,f5',f6,f7,f8,f9,f10,f11⟩:=own_new hown (by rw [flat_len pcC_len,HN.out]);have PS:=Lh (hardP_s (g:=g) X6.out hb71.out hgr 2 hex6);have bx7:w7.cell? ⟨xb,1,none⟩=some (.slice qv N cv):=(World.cell?_of_block (hgr.block xb (by rw [HW1.out];exact Nat.lt_succ_of_lt X6.out.bx.lt) (fun e=>X6.out.ne e.symm))).trans BX71;have fx7:w7.frozen? ⟨xb,1,none⟩=false:=(World.frozen?_of_block (hgr.block xb (by rw [HW1.out];exact Nat.lt_succ_of_lt X6.out.bx.lt) (fun e=>X6.out.ne e.symm))).trans FX71;have hxg:xb≠g:=(fun e=>hgx e.symm);have P1:=Lh (X6.out.push (W1:=((w6.alloc (.cells #[.int .i64 0,.int .i64 0,.int .i64 0,.string ⟨#[]⟩,.slice none 0 0,.string ⟨#[]⟩,.string ⟨#[]⟩,.slice none 0 0,.slice none 0 0,.slice none 0 0,.slice none 0 0,.slice none 0 0] 55)).drew)) HN.out hxb BW6.out.size hb71.out hown hgr (by rw [HW1.out];exact hat) (Below.refl _ _) PS.out (hardP_c 2 U pE kE));have P2:=Lh (X6.out.push2 (W1:=((w6.alloc (.cells #[.int .i64 0,.int .i64 0,.int .i64 0,.string ⟨#[]⟩,.slice none 0 0,.string ⟨#[]⟩,.string ⟨#[]⟩,.slice none 0 0,.slice none 0 0,.slice none 0 0,.slice none 0 0,.slice none 0 0] 55)).drew)) HN.out hxb BW6.out.size hb71.out hown hgr (by rw [HW1.out];exact hat) (Below.refl _ _) hgx PS.out (hardP_c 2 U pE kE));have ha9:=(hap _ A96).1;have hac:=(hap _ hav6).1;clear hown hgr hat PS;refine wpAnyH_take (i:=13) (v:=(.pointer (some ⟨g,N*12,none⟩))) rfl (by kernel_rfl) (by kernel_rfl) (by kernel_rfl) (fun _ _ _ h=>h) (Or.inl ⟨by rfl,?_⟩) hHeld ?_
          ·intro W hSw
           go_simp
           (intro hh;exfalso;omega)
          (try simp only [Act.put])
          refine wpAnyH_take (i:=15) (v:=(.pointer (some ⟨xb,0,none⟩))) rfl (by kernel_rfl) (by kernel_rfl) (by kernel_rfl) (fun _ _ _ h=>h) (Or.inl ⟨by rfl,?_⟩) hHeld ?_
          ·intro W hSw
           go_simp
          (try simp only [Act.put])
          refine wpAnyH_take (i:=16) (v:=(.pointer (some ⟨xb,1,none⟩))) rfl (by kernel_rfl) (by kernel_rfl) (by kernel_rfl) (fun _ _ _ h=>h) (Or.inl ⟨by rfl,?_⟩) hHeld ?_
          ·intro W hSw
           go_simp
          (try simp only [Act.put])
          refine wpAnyH_ready (rs:=[14,17]) (by kernel_rfl) (by simp) (AllReadyH.cons rfl (fun K hK=>?_) (AllReadyH.cons rfl (fun K hK=>?_) AllReadyH.nil))
          ·go_simp
           refine hK.out _ _ (Two2.set12 hHeld ha9 hac _ _ _ _ _ _ _ _ _ _ _ _) (fun hHeld=>?_);clear hK K
           (try simp only [Act.put]);(try simp only [List.setIfInBounds_toArray]);(try simp only [List.set_cons_succ]);(try simp only [List.set_cons_zero])
           refine wpAnyH_ready (rs:=[17]) (by kernel_rfl) (by simp) (AllReadyH.cons rfl (fun K hK=>?_) AllReadyH.nil)
           go_simp
           refine hK.out _ _ (Two2.set hHeld (fun e=>A96.2.1 e) (fun e=>hav6.2.1 e) _) (fun hHeld=>?_);clear hK K
           (try simp only [Act.put]);(try simp only [List.setIfInBounds_toArray]);(try simp only [List.set_cons_succ]);(try simp only [List.set_cons_zero])
           refine wpAnyH_done (by kernel_rfl) ?_ _;refine NoPanic.normal ?_;have HREL:Hid (∃ v' L2',XL xb fb w0.heap.size _ v' (L++L2')∧L2'.map Pc.x=exL fs q σ (l.take (j+1))∧KX xb w1 _∧Below w0.heap.size w0 _):=Lh ⟨_,L2++[hardP 2 U pE kE],by rw [←List.append_assoc];exact P1.out.1,by rw [HTK.out,HEX.out,List.map_append,LW.out];rfl,KW6.out.trans P1.out.2.1,BW6.out.trans P1.out.2.2⟩;clear P1 P2;go_wp2;go_roundw
           case rel =>
            obtain⟨v9,L9,r1,r2,r3,r4⟩:=HREL.out;exact⟨j+1,v9,L9,by omega,by go_num,Lh r1,Lh r2,Lh r3,Lh r4⟩
           case measure=>simp [intOf];omega
          ·go_simp
           refine hK.out _ _ (Two2.set hHeld (fun e=>A96.2.1 e) (fun e=>hav6.2.1 e) _) (fun hHeld=>?_);clear hK K
           (try simp only [Act.put]);(try simp only [List.setIfInBounds_toArray]);(try simp only [List.set_cons_succ]);(try simp only [List.set_cons_zero])
           refine wpAnyH_ready (rs:=[14]) (by kernel_rfl) (by simp) (AllReadyH.cons rfl (fun K hK=>?_) AllReadyH.nil)
           go_simp
           refine hK.out _ _ (Two2.set12 hHeld ha9 hac _ _ _ _ _ _ _ _ _ _ _ _) (fun hHeld=>?_);clear hK K
           (try simp only [Act.put]);(try simp only [List.setIfInBounds_toArray]);(try simp only [List.set_cons_succ]);(try simp only [List.set_cons_zero])
           refine wpAnyH_done (by kernel_rfl) ?_ _;refine NoPanic.normal ?_;have HREL:Hid (∃ v' L2',XL xb fb w0.heap.size _ v' (L++L2')∧L2'.map Pc.x=exL fs q σ (l.take (j+1))∧KX xb w1 _∧Below w0.heap.size w0 _):=Lh ⟨_,L2++[hardP 2 U pE kE],by rw [←List.append_assoc];exact P2.out.1,by rw [HTK.out,HEX.out,List.map_append,LW.out];rfl,KW6.out.trans P2.out.2.1,BW6.out.trans P2.out.2.2⟩;clear P1 P2;go_wp2;go_roundw
           case rel =>
            obtain⟨v9,L9,r1,r2,r3,r4⟩:=HREL.out;exact⟨j+1,v9,L9,by omega,by go_num,Lh r1,Lh r2,Lh r3,Lh r4⟩
           case measure=>simp [intOf];omega
         ·have hT7:Two2 w6 wr.heap.size bc (((w6.alloc (.cells #[.int .i64 0,.int .i64 0,.int .i64 0,.string ⟨#[]⟩,.slice none 0 0,.string ⟨#[]⟩,.string ⟨#[]⟩,.slice none 0 0,.slice none 0 0,.slice none 0 0,.slice none 0 0,.slice none 0 0] 55)).drew)):=⟨hb71.out.block _ hl9,hb71.out.block _ hlc⟩
          go_simp
          refine hK.out _ _ hT7 (fun hHeld=>?_);clear hK K
          (try simp only [Act.put]);(try simp only [List.setIfInBounds_toArray]);(try simp only [List.set_cons_succ]);(try simp only [List.set_cons_zero])
          refine wpAnyH_ready (rs:=[3]) (by kernel_rfl) (by simp) (AllReadyH.cons rfl (fun K hK=>?_) AllReadyH.nil)
          go_simp
          refine hK.out _ _ hHeld (fun hHeld=>?_);clear hK K
          (try simp only [Act.put]);(try simp only [List.setIfInBounds_toArray]);(try simp only [List.set_cons_succ]);(try simp only [List.set_cons_zero])
          refine wpAnyH_take (i:=10) (v:=(.int .i64 N)) rfl (by kernel_rfl) (by kernel_rfl) (by kernel_rfl) (fun _ _ _ h=>h) (Or.inl ⟨by rfl,?_⟩) hHeld ?_
          ·intro W hSw
           go_simp
          (try simp only [Act.put,List.setIfInBounds_toArray])
          refine wpAnyH_ready (rs:=[12]) (by kernel_rfl) (by simp) (AllReadyH.cons rfl (fun K hK=>?_) AllReadyH.nil);refine step_append_lies _ (by rfl) (.tmp 95) (.tmp 103) 22 (by rfl) w0.heap.size 55 i0 (.agg #[.int .i64 0,.int .i64 0,.int .i64 0,.string ⟨#[]⟩,.slice none 0 0,.string ⟨#[]⟩,.string ⟨#[]⟩,.slice none 0 0,.slice none 0 0,.slice none 0 0,.slice none 0 0,.slice none 0 0]) 12 216 Tryz.underlying22 hi iz0 iz1 iz2 rfl (by decide) (.slice qv N cv) N ((L++L2).flatMap pcC) (by rfl) XR7.out ⟨w6.heap.size,0,none⟩ 1 1 [.int .i64 0,.int .i64 0,.int .i64 0,.string ⟨#[]⟩,.slice none 0 0,.string ⟨#[]⟩,.string ⟨#[]⟩,.slice none 0 0,.slice none 0 0,.slice none 0 0,.slice none 0 0,.slice none 0 0] (by rfl) rfl (World.news_of_block (cs:=#[.int .i64 0,.int .i64 0,.int .i64 0,.string ⟨#[]⟩,.slice none 0 0,.string ⟨#[]⟩,.string ⟨#[]⟩,.slice none 0 0,.slice none 0 0,.slice none 0 0,.slice none 0 0,.slice none 0 0]) (heap_alloc_new w6 _)) (one_12 _ _ _ _ _ (by simp [Value.oneCell'])) (by omega) (by unfold maxLen;omega) (by omega) hb07 (w6.heap.size+1) HW1.out ?_;intro g cap7 w7 hown hgr hat hlt;obtain⟨hgx,hap⟩:=row_apart X6.out hat (by omega);have hz7:=hgr.size;rw [HW1.out] at hz7;refine hK.out _ _ (Two2.grown hHeld (by rw [HW1.out];exact Nat.lt_succ_of_lt hl9) (by rw [HW1.out];exact Nat.lt_succ_of_lt hlc) hgr (hap _ A96).2 (hap _ hav6).2) (fun hHeld=>?_);clear hK K
          (try simp only [Act.put])
          obtain⟨n0,n1,n2,n3,n4,n5,n6,n7,n8,n9,n10,n11,f0,f1,f2,f3,f4,f5',f6,f7,f8,f9,f10,f11⟩:=own_new hown (by rw [flat_len pcC_len,HN.out]);have PS:=Lh (hardP_s (g:=g) X6.out hb71.out hgr 2 hex6);have bx7:w7.cell? ⟨xb,1,none⟩=some (.slice qv N cv):=(World.cell?_of_block (hgr.block xb (by rw [HW1.out];exact Nat.lt_succ_of_lt X6.out.bx.lt) (fun e=>X6.out.ne e.symm))).trans BX71;have fx7:w7.frozen? ⟨xb,1,none⟩=false:=(World.frozen?_of_block (hgr.block xb (by rw [HW1.out];exact Nat.lt_succ_of_lt X6.out.bx.lt) (fun e=>X6.out.ne e.symm))).trans FX71;have hxg:xb≠g:=(fun e=>hgx e.symm);have P1:=Lh (X6.out.push (W1:=((w6.alloc (.cells #[.int .i64 0,.int .i64 0,.int .i64 0,.string ⟨#[]⟩,.slice none 0 0,.string ⟨#[]⟩,.string ⟨#[]⟩,.slice none 0 0,.slice none 0 0,.slice none 0 0,.slice none 0 0,.slice none 0 0] 55)).drew)) HN.out hxb BW6.out.size hb71.out hown hgr (by rw [HW1.out];exact hat) (Below.refl _ _) PS.out (hardP_c 2 U pE kE));have P2:=Lh (X6.out.push2 (W1:=((w6.alloc (.cells #[.int .i64 0,.int .i64 0,.int .i64 0,.string ⟨#[]⟩,.slice none 0 0,.string ⟨#[]⟩,.string ⟨#[]⟩,.slice none 0 0,.slice none 0 0,.slice none 0 0,.slice none 0 0,.slice none 0 0] 55)).drew)) HN.out hxb BW6.out.size hb71.out hown hgr (by rw [HW1.out];exact hat) (Below.refl _ _) hgx PS.out (hardP_c 2 U pE kE));have ha9:=(hap _ A96).1;have hac:=(hap _ hav6).1;clear hown hgr hat PS;refine wpAnyH_take (i:=13) (v:=(.pointer (some ⟨g,N*12,none⟩))) rfl (by kernel_rfl) (by kernel_rfl) (by kernel_rfl) (fun _ _ _ h=>h) (Or.inl ⟨by rfl,?_⟩) hHeld ?_
          ·intro W hSw
           go_simp
           (intro hh;exfalso;omega)
          (try simp only [Act.put])
          refine wpAnyH_take (i:=15) (v:=(.pointer (some ⟨xb,0,none⟩))) rfl (by kernel_rfl) (by kernel_rfl) (by kernel_rfl) (fun _ _ _ h=>h) (Or.inl ⟨by rfl,?_⟩) hHeld ?_
          ·intro W hSw
           go_simp
          (try simp only [Act.put]);(try simp only [List.setIfInBounds_toArray]);(try simp only [List.set_cons_succ]);(try simp only [List.set_cons_zero])
          refine wpAnyH_take (i:=16) (v:=(.pointer (some ⟨xb,1,none⟩))) rfl (by kernel_rfl) (by kernel_rfl) (by kernel_rfl) (fun _ _ _ h=>h) (Or.inl ⟨by rfl,?_⟩) hHeld ?_
          ·intro W hSw
           go_simp
          (try simp only [Act.put]);(try simp only [List.setIfInBounds_toArray]);(try simp only [List.set_cons_succ]);(try simp only [List.set_cons_zero])
          refine wpAnyH_ready (rs:=[14,17]) (by kernel_rfl) (by simp) (AllReadyH.cons rfl (fun K hK=>?_) (AllReadyH.cons rfl (fun K hK=>?_) AllReadyH.nil))
          ·go_simp
           refine hK.out _ _ (Two2.set12 hHeld ha9 hac _ _ _ _ _ _ _ _ _ _ _ _) (fun hHeld=>?_);clear hK K
           (try simp only [Act.put]);(try simp only [List.setIfInBounds_toArray]);(try simp only [List.set_cons_succ]);(try simp only [List.set_cons_zero])
           refine wpAnyH_ready (rs:=[17]) (by kernel_rfl) (by simp) (AllReadyH.cons rfl (fun K hK=>?_) AllReadyH.nil)
           go_simp
           refine hK.out _ _ (Two2.set hHeld (fun e=>A96.2.1 e) (fun e=>hav6.2.1 e) _) (fun hHeld=>?_);clear hK K
           (try simp only [Act.put]);(try simp only [List.setIfInBounds_toArray]);(try simp only [List.set_cons_succ]);(try simp only [List.set_cons_zero])
           refine wpAnyH_done (by kernel_rfl) ?_ _;refine NoPanic.normal ?_;have HREL:Hid (∃ v' L2',XL xb fb w0.heap.size _ v' (L++L2')∧L2'.map Pc.x=exL fs q σ (l.take (j+1))∧KX xb w1 _∧Below w0.heap.size w0 _):=Lh ⟨_,L2++[hardP 2 U pE kE],by rw [←List.append_assoc];exact P1.out.1,by rw [HTK.out,HEX.out,List.map_append,LW.out];rfl,KW6.out.trans P1.out.2.1,BW6.out.trans P1.out.2.2⟩;clear P1 P2;go_wp2;go_roundw
           case rel =>
            obtain⟨v9,L9,r1,r2,r3,r4⟩:=HREL.out;exact⟨j+1,v9,L9,by omega,by go_num,Lh r1,Lh r2,Lh r3,Lh r4⟩
           case measure=>simp [intOf];omega
          ·go_simp
           refine hK.out _ _ (Two2.set hHeld (fun e=>A96.2.1 e) (fun e=>hav6.2.1 e) _) (fun hHeld=>?_);clear hK K
           (try simp only [Act.put]);(try simp only [List.setIfInBounds_toArray]);(try simp only [List.set_cons_succ]);(try simp only [List.set_cons_zero])
           refine wpAnyH_ready (rs:=[14]) (by kernel_rfl) (by simp) (AllReadyH.cons rfl (fun K hK=>?_) AllReadyH.nil)
           go_simp
           refine hK.out _ _ (Two2.set12 hHeld ha9 hac _ _ _ _ _ _ _ _ _ _ _ _) (fun hHeld=>?_);clear hK K
           (try simp only [Act.put]);(try simp only [List.setIfInBounds_toArray]);(try simp only [List.set_cons_succ]);(try simp only [List.set_cons_zero])
           refine wpAnyH_done (by kernel_rfl) ?_ _;refine NoPanic.normal ?_;have HREL:Hid (∃ v' L2',XL xb fb w0.heap.size _ v' (L++L2')∧L2'.map Pc.x=exL fs q σ (l.take (j+1))∧KX xb w1 _∧Below w0.heap.size w0 _):=Lh ⟨_,L2++[hardP 2 U pE kE],by rw [←List.append_assoc];exact P2.out.1,by rw [HTK.out,HEX.out,List.map_append,LW.out];rfl,KW6.out.trans P2.out.2.1,BW6.out.trans P2.out.2.2⟩;clear P1 P2;go_wp2;go_roundw
           case rel =>
            obtain⟨v9,L9,r1,r2,r3,r4⟩:=HREL.out;exact⟨j+1,v9,L9,by omega,by go_num,Lh r1,Lh r2,Lh r3,Lh r4⟩
           case measure=>simp [intOf];omega
       ·have HEX:Hid (exI fs q σ a=[outI a]):=Lh (by rw [HEI.out,if_neg h4,if_neg h5,if_neg h12]);have hcl:(L++L2).length+1≤1000:=by
         have:=HCE.out;rw [cntI_eq,hkd,if_neg h4,if_neg h5] at this;omega
        have f1:(kd == 1)=false:=(by rw [beq_eq_false_iff_ne];exact fun e=>h12 (.inl e));have f2:(kd == 2)=false:=(by rw [beq_eq_false_iff_ne];exact fun e=>h12 (.inr e));obtain⟨N,hN⟩:∃ N,(L++L2).length=N:=⟨_,rfl⟩;have HN:=Lh hN;rw [hN] at hcl;have XR:Hid (w4.ownsRow w0.heap.size 55 12 v' N ((L++L2).flatMap pcC)):=Lh (by rw [←hN];exact X4.out.row);obtain⟨qv,cv,rfl⟩:=own_len XR.out;obtain⟨i0,hi,iz0,iz1,iz2⟩:=info_parts infoIt;have HNM:=Lh HVA.out.nm
        have HO:Hid (∀ W,Below w4.heap.size w4 W→Calls Tryz.prog 136 #[iv kd a.e.op a.e.n a.e.nm (.slice p4 a.e.args.length k4) a.nm a.ix (.slice p7 a.ws.length k7) (.slice p8 a.it.length k8) (.slice p9 a.el.length k9) (.slice p10 a.bf.length k10) (.slice p11 a.af.length k11)] W fun x w'=>∃ a7 a10 a11,x=.returned (iv kd 0 0 ⟨#[]⟩ (.slice none 0 0) a.nm ⟨#[]⟩ a7 (.slice none 0 0) (.slice none 0 0) a10 a11) ∧
          WtS (Up W.heap.size w') w' a7 a.ws∧StS (Up W.heap.size w') w' a10 a.bf∧StS (Up W.heap.size w') w' a11 a.af∧Below W.heap.size W w'):=Lh fun W hW=>by
         have:=outer_any a _ _ _ _ _ _ w0.heap.size W (HVA.out.under (BW4.out.trans (hW.mono BW4.out.size))) (Nat.le_trans BW4.out.size hW.size);rw [hkd] at this;exact this.mono fun x w' ⟨u7,u10,u11,h1,h2⟩=>⟨u7,u10,u11,hkd ▸ h1,h2⟩
        have OPC:Hid (∀ u7 u10 u11,pcC (outP a u7 u10 u11)=[.int .i64 kd,.int .i64 0,.int .i64 0,.string ⟨#[]⟩,.slice none 0 0,.string a.nm,.string ⟨#[]⟩,u7,.slice none 0 0,.slice none 0 0,u10,u11]):=(Lh fun u7 u10 u11=>hkd ▸ outP_c a u7 u10 u11);clear HIH HEI HCZ hkd hN hsme hd1 hd2 HVA;have c5:=F9.out.c 5 _ rfl;have c6:=F9.out.c 6 _ rfl;have c7:=F9.out.c 7 _ rfl;have c8:=F9.out.c 8 _ rfl;have c9:=F9.out.c 9 _ rfl;have c10:=F9.out.c 10 _ rfl;have c11:=F9.out.c 11 _ rfl;have hl9:=A9.out.1;clear K1 B7 A7 FC4 CD4 F9;generalize a.e.op=ao at *
        generalize a.e.n=an at *
        generalize a.e.nm=am at *
        generalize a.e.args.length=k4' at *
        generalize a.ws.length=k7' at *
        generalize a.it.length=k8' at *
        generalize a.el.length=k9' at *
        generalize a.bf.length=k10' at *
        generalize a.af.length=k11' at *
        go_wp2_with fail
        refine wp_region_noPanic ?_;refine wp_region_held_drew (S:=Two2 w4 wr.heap.size wr.heap.size) (by kernel_rfl) ⟨rfl,rfl⟩ (fun hHeld=>?_);refine wpAnyH_take (i:=0) (v:=(.pointer (some ⟨xb,0,none⟩))) rfl (by kernel_rfl) (by kernel_rfl) (by kernel_rfl) (fun _ _ _ h=>h) (Or.inl ⟨by rfl,?_⟩) hHeld ?_
        ·intro W hSw
         go_simp
        (try simp only [Act.put]);(try simp only [List.setIfInBounds_toArray]);(try simp only [List.set_cons_succ]);(try simp only [List.set_cons_zero])
        refine wpAnyH_take (i:=1) (v:=(.pointer (some ⟨xb,0,none⟩))) rfl (by kernel_rfl) (by kernel_rfl) (by kernel_rfl) (fun _ _ _ h=>h) (Or.inl ⟨by rfl,?_⟩) hHeld ?_
        ·intro W hSw
         go_simp
        (try simp only [Act.put]);(try simp only [List.setIfInBounds_toArray]);(try simp only [List.set_cons_succ]);(try simp only [List.set_cons_zero])
        refine wpAnyH_take (i:=2) (v:=(.pointer (some ⟨xb,1,none⟩))) rfl (by kernel_rfl) (by kernel_rfl) (by kernel_rfl) (fun _ _ _ h=>h) (Or.inl ⟨by rfl,?_⟩) hHeld ?_
        ·intro W hSw
         go_simp
        (try simp only [Act.put]);(try simp only [List.setIfInBounds_toArray]);(try simp only [List.set_cons_succ]);(try simp only [List.set_cons_zero])
        refine wpAnyH_take (i:=4) (v:=(.agg #[.int .i64 kd,.int .i64 ao,.int .i64 an,.string am,.slice p4 k4' k4,.string a.nm,.string a.ix,.slice p7 k7' k7,.slice p8 k8' k8,.slice p9 k9' k9,.slice p10 k10' k10,.slice p11 k11' k11])) rfl (by kernel_rfl) (by kernel_rfl) (by kernel_rfl) (fun _ _ _ h=>h) (Or.inl ⟨by rfl,?_⟩) hHeld ?_
        ·intro W hSw;have e0:=(World.cell?_of_block hSw.1).trans c0;have e1:=(World.cell?_of_block hSw.1).trans c1;have e2:=(World.cell?_of_block hSw.1).trans c2;have e3:=(World.cell?_of_block hSw.1).trans c3;have e4:=(World.cell?_of_block hSw.1).trans c4;have e5:=(World.cell?_of_block hSw.1).trans c5;have e6:=(World.cell?_of_block hSw.1).trans c6;have e7:=(World.cell?_of_block hSw.1).trans c7;have e8:=(World.cell?_of_block hSw.1).trans c8;have e9:=(World.cell?_of_block hSw.1).trans c9;have e10:=(World.cell?_of_block hSw.1).trans c10;have e11:=(World.cell?_of_block hSw.1).trans c11
         go_simp
        (try simp only [Act.put]);(try simp only [List.setIfInBounds_toArray]);(try simp only [List.set_cons_succ]);(try simp only [List.set_cons_zero])
        clear c0 c1 c2 c3 c4 c5 c6 c7 c8 c9 c10 c11 f1 f2 f4 f5 g0 g1 g2 g3 g4 g5 g6 g7 g8 g9 g10 g11 h4 h5 h12 hen h1w hz2 hse hc0 hc1 hFsz hmem hszi hb HCE HS HF HD HSM HSG HQS HB7 HA7 HXL1 HB01 HKX1 HFC1 HCD1 FINP HR;refine wpAnyH_ready (rs:=[3,5,7]) (by kernel_rfl) (by simp) (AllReadyH.cons rfl (fun K hK=>?_) (AllReadyH.cons rfl (fun K hK=>?_) (AllReadyH.cons rfl (fun K hK=>?_) AllReadyH.nil)))
        ·have x1:(w4.drew).cell? ⟨xb,1,none⟩=some (.slice qv N cv):=(X4.out.bx.stay ((Below.refl _ _).drew)).c 1 _ rfl
         go_simp
         refine hK.out _ _ hHeld (fun hHeld=>?_);clear hK K
         (try simp only [Act.put]);(try simp only [List.setIfInBounds_toArray]);(try simp only [List.set_cons_succ]);(try simp only [List.set_cons_zero])
         clear x1;refine wpAnyH_take (i:=6) (v:=(.int .i64 N)) rfl (by kernel_rfl) (by kernel_rfl) (by kernel_rfl) (fun _ _ _ h=>h) (Or.inl ⟨by rfl,?_⟩) hHeld ?_
         ·intro W hSw
          go_simp
         (try simp only [Act.put]);(try simp only [List.setIfInBounds_toArray]);(try simp only [List.set_cons_succ]);(try simp only [List.set_cons_zero])
         refine wpAnyH_ready (rs:=[5,7]) (by kernel_rfl) (by simp) (AllReadyH.cons rfl (fun K hK=>?_) (AllReadyH.cons rfl (fun K hK=>?_) AllReadyH.nil))
         ·go_simp
          (with_reducible refine (HO.out _ ((Below.refl _ _).drew)).mono ?_)
          rintro x w5 ⟨a7,a10,a11,rfl,h7,h10,h11,hb5⟩;obtain⟨q7,c7,rfl,_⟩:=id h7;obtain⟨q10,c10,rfl,_⟩:=id h10;obtain⟨q11,c11,rfl,_⟩:=id h11;have H7:=Lh h7;have H10:=Lh h10;have H11:=Lh h11;have HB5':=Lh hb5;have HB45:=Lh (Below.then_ ((Below.refl _ _).drew) hb5);have hz45:=HB45.out.size;have hT5:Two2 w4 wr.heap.size wr.heap.size w5:=⟨HB45.out.block _ hl9,HB45.out.block _ hl9⟩;clear h7 h10 h11 hb5
          (try go_wp2_with fail)
          refine hK.out _ _ hT5 (fun hHeld=>?_);clear hK K
          (try simp only [Act.put]);(try simp only [List.setIfInBounds_toArray]);(try simp only [List.set_cons_succ]);(try simp only [List.set_cons_zero])
          refine wpAnyH_ready (rs:=[7]) (by kernel_rfl) (by simp) (AllReadyH.cons rfl (fun K hK=>?_) AllReadyH.nil)
          ·have hT7:Two2 w4 wr.heap.size wr.heap.size (w5.alloc (.cells #[.int .i64 0,.int .i64 0,.int .i64 0,.string ⟨#[]⟩,.slice none 0 0,.string ⟨#[]⟩,.string ⟨#[]⟩,.slice none 0 0,.slice none 0 0,.slice none 0 0,.slice none 0 0,.slice none 0 0] 55)):=⟨((HB45.out.then_ (ba w5 _))).block _ hl9,((HB45.out.then_ (ba w5 _))).block _ hl9⟩
           go_simp
           refine hK.out _ _ hT7 (fun hHeld=>?_);clear hK K
           (try simp only [Act.put]);(try simp only [List.setIfInBounds_toArray]);(try simp only [List.set_cons_succ]);(try simp only [List.set_cons_zero])
           have hW1:Hid (Below w4.heap.size w4 (w5.alloc (.cells #[.int .i64 0,.int .i64 0,.int .i64 0,.string ⟨#[]⟩,.slice none 0 0,.string ⟨#[]⟩,.string ⟨#[]⟩,.slice none 0 0,.slice none 0 0,.slice none 0 0,.slice none 0 0,.slice none 0 0] 55))):=Lh (HB45.out.then_ (ba w5 _));have hW5:Hid (Below w5.heap.size w5 (w5.alloc (.cells #[.int .i64 0,.int .i64 0,.int .i64 0,.string ⟨#[]⟩,.slice none 0 0,.string ⟨#[]⟩,.string ⟨#[]⟩,.slice none 0 0,.slice none 0 0,.slice none 0 0,.slice none 0 0,.slice none 0 0] 55))):=Lh (ba w5 _);have XR7:=Lh (own_later XR.out hW1.out);have BX7:=Lh (X4.out.bx.stay hW1.out);obtain⟨H1,hH1⟩:∃ H,(w5.alloc (.cells #[.int .i64 0,.int .i64 0,.int .i64 0,.string ⟨#[]⟩,.slice none 0 0,.string ⟨#[]⟩,.string ⟨#[]⟩,.slice none 0 0,.slice none 0 0,.slice none 0 0,.slice none 0 0,.slice none 0 0] 55)).heap.size=H:=⟨_,rfl⟩;have HH1:=Lh hH1;have hH4:w4.heap.size≤H1:=(by have:=hW1.out.size;rw [hH1] at this;exact this);clear hH1;refine wpAnyH_ready (rs:=[8]) (by kernel_rfl) (by simp) (AllReadyH.cons rfl (fun K hK=>?_) AllReadyH.nil);refine step_append_lies _ (by rfl) (.tmp 31) (.tmp 35) 22 (by rfl) w0.heap.size 55 i0 (.agg #[.int .i64 0,.int .i64 0,.int .i64 0,.string ⟨#[]⟩,.slice none 0 0,.string ⟨#[]⟩,.string ⟨#[]⟩,.slice none 0 0,.slice none 0 0,.slice none 0 0,.slice none 0 0,.slice none 0 0]) 12 216 Tryz.underlying22 hi iz0 iz1 iz2 rfl (by decide) (.slice qv N cv) N ((L++L2).flatMap pcC) (by rfl) XR7.out ⟨w5.heap.size,0,none⟩ 1 1 [.int .i64 0,.int .i64 0,.int .i64 0,.string ⟨#[]⟩,.slice none 0 0,.string ⟨#[]⟩,.string ⟨#[]⟩,.slice none 0 0,.slice none 0 0,.slice none 0 0,.slice none 0 0,.slice none 0 0] (by rfl) rfl (World.news_of_block (cs:=#[.int .i64 0,.int .i64 0,.int .i64 0,.string ⟨#[]⟩,.slice none 0 0,.string ⟨#[]⟩,.string ⟨#[]⟩,.slice none 0 0,.slice none 0 0,.slice none 0 0,.slice none 0 0,.slice none 0 0]) (heap_alloc_new w5 _)) (one_12 _ _ _ _ _ (by simp [Value.oneCell'])) (by omega) (by unfold maxLen;omega) (by omega) (Nat.le_trans BW4.out.size hW1.out.size) H1 HH1.out ?_;intro g cap7 w7 hown hgr hat hlt;obtain⟨hgx,hap⟩:=row_apart X4.out hat hH4;have hz7:=hgr.size;rw [HH1.out] at hz7;refine hK.out _ _ (Two2.grown hHeld (by rw [HH1.out];omega) (by rw [HH1.out];omega) hgr (hap _ A9.out).2 (hap _ A9.out).2) (fun hHeld=>?_);clear hK K
           (try simp only [Act.put]);(try simp only [List.setIfInBounds_toArray]);(try simp only [List.set_cons_succ]);(try simp only [List.set_cons_zero])
           obtain⟨n0,n1,n2,n3,n4,n5,n6,n7,n8,n9,n10,n11,f0,f1,f2,f3,f4',f5',f6,f7,f8,f9,f10,f11⟩:=own_new hown (by rw [flat_len pcC_len,HN.out]);have hat2:(Value.slice qv N cv).ownBlock=some g∨g=(w5.alloc (.cells #[.int .i64 0,.int .i64 0,.int .i64 0,.string ⟨#[]⟩,.slice none 0 0,.string ⟨#[]⟩,.string ⟨#[]⟩,.slice none 0 0,.slice none 0 0,.slice none 0 0,.slice none 0 0,.slice none 0 0] 55)).heap.size:=(by rw [HH1.out];exact hat);have PS:=Lh (outP_s (E:=w4.drew) X4.out (Nat.le_refl _) hW5.out hgr hat2 HNM.out H7.out H10.out H11.out);have hx4:=X4.out.bx.lt;have bx7:w7.cell? ⟨xb,1,none⟩=some (.slice qv N cv):=(World.cell?_of_block (hgr.block xb (by rw [HH1.out];omega) (fun e=>X4.out.ne e.symm))).trans (BX7.out.c 1 _ rfl);have fx7:w7.frozen? ⟨xb,1,none⟩=false:=(World.frozen?_of_block (hgr.block xb (by rw [HH1.out];omega) (fun e=>X4.out.ne e.symm))).trans (BX7.out.f 1);have hxg:xb≠g:=(fun e=>hgx e.symm);have P1:=Lh (X4.out.push (W1:=w5.alloc (.cells #[.int .i64 0,.int .i64 0,.int .i64 0,.string ⟨#[]⟩,.slice none 0 0,.string ⟨#[]⟩,.string ⟨#[]⟩,.slice none 0 0,.slice none 0 0,.slice none 0 0,.slice none 0 0,.slice none 0 0] 55)) HN.out hxb BW4.out.size hW1.out hown hgr hat2 (Below.refl _ _) PS.out (OPC.out _ _ _));have P2:=Lh (X4.out.push2 (W1:=w5.alloc (.cells #[.int .i64 0,.int .i64 0,.int .i64 0,.string ⟨#[]⟩,.slice none 0 0,.string ⟨#[]⟩,.string ⟨#[]⟩,.slice none 0 0,.slice none 0 0,.slice none 0 0,.slice none 0 0,.slice none 0 0] 55)) HN.out hxb BW4.out.size hW1.out hown hgr hat2 (Below.refl _ _) hgx PS.out (OPC.out _ _ _));have ha9:=(hap _ A9.out).1;clear hown hgr hat hat2 PS;refine wpAnyH_take (i:=9) (v:=(.pointer (some ⟨g,N*12,none⟩))) rfl (by kernel_rfl) (by kernel_rfl) (by kernel_rfl) (fun _ _ _ h=>h) (Or.inl ⟨by rfl,?_⟩) hHeld ?_
           ·intro W hSw
            go_simp
            (intro hh;exfalso;omega)
           (try simp only [Act.put]);(try simp only [List.setIfInBounds_toArray]);(try simp only [List.set_cons_succ]);(try simp only [List.set_cons_zero])
           refine wpAnyH_take (i:=11) (v:=(.pointer (some ⟨xb,0,none⟩))) rfl (by kernel_rfl) (by kernel_rfl) (by kernel_rfl) (fun _ _ _ h=>h) (Or.inl ⟨by rfl,?_⟩) hHeld ?_
           ·intro W hSw
            go_simp
           (try simp only [Act.put]);(try simp only [List.setIfInBounds_toArray]);(try simp only [List.set_cons_succ]);(try simp only [List.set_cons_zero])
           refine wpAnyH_take (i:=12) (v:=(.pointer (some ⟨xb,1,none⟩))) rfl (by kernel_rfl) (by kernel_rfl) (by kernel_rfl) (fun _ _ _ h=>h) (Or.inl ⟨by rfl,?_⟩) hHeld ?_
           ·intro W hSw
            go_simp
           (try simp only [Act.put]);(try simp only [List.setIfInBounds_toArray]);(try simp only [List.set_cons_succ]);(try simp only [List.set_cons_zero])
           refine wpAnyH_ready (rs:=[10,13]) (by kernel_rfl) (by simp) (AllReadyH.cons rfl (fun K hK=>?_) (AllReadyH.cons rfl (fun K hK=>?_) AllReadyH.nil))
           ·go_simp
            refine hK.out _ _ (Two2.set12 hHeld ha9 ha9 _ _ _ _ _ _ _ _ _ _ _ _) (fun hHeld=>?_);clear hK K
            (try simp only [Act.put]);(try simp only [List.setIfInBounds_toArray]);(try simp only [List.set_cons_succ]);(try simp only [List.set_cons_zero])
            refine wpAnyH_ready (rs:=[13]) (by kernel_rfl) (by simp) (AllReadyH.cons rfl (fun K hK=>?_) AllReadyH.nil)
            go_simp
            refine hK.out _ _ (Two2.set hHeld (fun e=>A9.out.2.1 e) (fun e=>A9.out.2.1 e) _) (fun hHeld=>?_);clear hK K
            (try simp only [Act.put]);(try simp only [List.setIfInBounds_toArray]);(try simp only [List.set_cons_succ]);(try simp only [List.set_cons_zero])
            refine wpAnyH_done (by kernel_rfl) ?_ _;refine NoPanic.normal ?_;have HREL:Hid (∃ v' L2',XL xb fb w0.heap.size _ v' (L++L2')∧L2'.map Pc.x=exL fs q σ (l.take (j+1))∧KX xb w1 _∧Below w0.heap.size w0 _):=Lh ⟨_,L2++[outP a _ _ _],by rw [←List.append_assoc];exact P1.out.1,by rw [HTK.out,HEX.out,List.map_append,LW.out];rfl,KW4.out.trans P1.out.2.1,BW4.out.trans P1.out.2.2⟩;clear P1 P2;go_wp2;go_roundw
            case rel =>
             obtain⟨v9,L9,r1,r2,r3,r4⟩:=HREL.out;exact⟨j+1,v9,L9,by omega,by go_num,Lh r1,Lh r2,Lh r3,Lh r4⟩
            case measure=>simp [intOf];omega
           ·go_simp
            refine hK.out _ _ (Two2.set hHeld (fun e=>A9.out.2.1 e) (fun e=>A9.out.2.1 e) _) (fun hHeld=>?_);clear hK K
            (try simp only [Act.put]);(try simp only [List.setIfInBounds_toArray]);(try simp only [List.set_cons_succ]);(try simp only [List.set_cons_zero])
            refine wpAnyH_ready (rs:=[10]) (by kernel_rfl) (by simp) (AllReadyH.cons rfl (fun K hK=>?_) AllReadyH.nil)
            go_simp
            refine hK.out _ _ (Two2.set12 hHeld ha9 ha9 _ _ _ _ _ _ _ _ _ _ _ _) (fun hHeld=>?_);clear hK K
            (try simp only [Act.put]);(try simp only [List.setIfInBounds_toArray]);(try simp only [List.set_cons_succ]);(try simp only [List.set_cons_zero])
            refine wpAnyH_done (by kernel_rfl) ?_ _;refine NoPanic.normal ?_;have HREL:Hid (∃ v' L2',XL xb fb w0.heap.size _ v' (L++L2')∧L2'.map Pc.x=exL fs q σ (l.take (j+1))∧KX xb w1 _∧Below w0.heap.size w0 _):=Lh ⟨_,L2++[outP a _ _ _],by rw [←List.append_assoc];exact P2.out.1,by rw [HTK.out,HEX.out,List.map_append,LW.out];rfl,KW4.out.trans P2.out.2.1,BW4.out.trans P2.out.2.2⟩;clear P1 P2;go_wp2;go_roundw
            case rel =>
             obtain⟨v9,L9,r1,r2,r3,r4⟩:=HREL.out;exact⟨j+1,v9,L9,by omega,by go_num,Lh r1,Lh r2,Lh r3,Lh r4⟩
            case measure=>simp [intOf];omega
         ·have hT7:Two2 w4 wr.heap.size wr.heap.size ((w4.alloc (.cells #[.int .i64 0,.int .i64 0,.int .i64 0,.string ⟨#[]⟩,.slice none 0 0,.string ⟨#[]⟩,.string ⟨#[]⟩,.slice none 0 0,.slice none 0 0,.slice none 0 0,.slice none 0 0,.slice none 0 0] 55)).drew):=⟨(((ba w4 _).drew)).block _ hl9,(((ba w4 _).drew)).block _ hl9⟩
          go_simp
          refine hK.out _ _ hT7 (fun hHeld=>?_);clear hK K
          (try simp only [Act.put]);(try simp only [List.setIfInBounds_toArray]);(try simp only [List.set_cons_succ]);(try simp only [List.set_cons_zero])
          refine wpAnyH_ready (rs:=[5]) (by kernel_rfl) (by simp) (AllReadyH.cons rfl (fun K hK=>?_) AllReadyH.nil)
          ·go_simp
           (with_reducible refine (HO.out _ ((ba w4 _).drew)).mono ?_)
           rintro x w5 ⟨a7,a10,a11,rfl,h7,h10,h11,hb5⟩;obtain⟨q7,c7,rfl,_⟩:=id h7;obtain⟨q10,c10,rfl,_⟩:=id h10;obtain⟨q11,c11,rfl,_⟩:=id h11;have H7:=Lh h7;have H10:=Lh h10;have H11:=Lh h11;have HB5':=Lh hb5;have HB45:=Lh (Below.then_ ((ba w4 _).drew) hb5);have hz45:=HB45.out.size;have hT5:Two2 w4 wr.heap.size wr.heap.size w5:=⟨HB45.out.block _ hl9,HB45.out.block _ hl9⟩;clear h7 h10 h11 hb5
           (try go_wp2_with fail)
           refine hK.out _ _ hT5 (fun hHeld=>?_);clear hK K
           (try simp only [Act.put]);(try simp only [List.setIfInBounds_toArray]);(try simp only [List.set_cons_succ]);(try simp only [List.set_cons_zero])
           have hW1:Hid (Below w4.heap.size w4 (w5)):=Lh HB45.out;have hW5:Hid (Below w5.heap.size w5 (w5)):=Lh (Below.refl _ _);have hnb:Hid (w5.heap[w4.heap.size]? = some (.cells #[.int .i64 0,.int .i64 0,.int .i64 0,.string ⟨#[]⟩,.slice none 0 0,.string ⟨#[]⟩,.string ⟨#[]⟩,.slice none 0 0,.slice none 0 0,.slice none 0 0,.slice none 0 0,.slice none 0 0] 55)):=Lh ((HB5'.out.block w4.heap.size (by show _<(w4.alloc _).heap.size;rw [World.size_alloc];exact Nat.lt_succ_self _)).trans (heap_alloc_new w4 _));have XR7:=Lh (own_later XR.out hW1.out);have BX7:=Lh (X4.out.bx.stay hW1.out);obtain⟨H1,hH1⟩:∃ H,(w5).heap.size=H:=⟨_,rfl⟩;have HH1:=Lh hH1;have hH4:w4.heap.size≤H1:=(by have:=hW1.out.size;rw [hH1] at this;exact this);clear hH1;refine wpAnyH_ready (rs:=[8]) (by kernel_rfl) (by simp) (AllReadyH.cons rfl (fun K hK=>?_) AllReadyH.nil);refine step_append_lies _ (by rfl) (.tmp 31) (.tmp 35) 22 (by rfl) w0.heap.size 55 i0 (.agg #[.int .i64 0,.int .i64 0,.int .i64 0,.string ⟨#[]⟩,.slice none 0 0,.string ⟨#[]⟩,.string ⟨#[]⟩,.slice none 0 0,.slice none 0 0,.slice none 0 0,.slice none 0 0,.slice none 0 0]) 12 216 Tryz.underlying22 hi iz0 iz1 iz2 rfl (by decide) (.slice qv N cv) N ((L++L2).flatMap pcC) (by rfl) XR7.out ⟨w4.heap.size,0,none⟩ 1 1 [.int .i64 0,.int .i64 0,.int .i64 0,.string ⟨#[]⟩,.slice none 0 0,.string ⟨#[]⟩,.string ⟨#[]⟩,.slice none 0 0,.slice none 0 0,.slice none 0 0,.slice none 0 0,.slice none 0 0] (by rfl) rfl (World.news_of_block (cs:=#[.int .i64 0,.int .i64 0,.int .i64 0,.string ⟨#[]⟩,.slice none 0 0,.string ⟨#[]⟩,.string ⟨#[]⟩,.slice none 0 0,.slice none 0 0,.slice none 0 0,.slice none 0 0,.slice none 0 0]) (hnb.out)) (one_12 _ _ _ _ _ (by simp [Value.oneCell'])) (by omega) (by unfold maxLen;omega) (by omega) (Nat.le_trans BW4.out.size hW1.out.size) H1 HH1.out ?_;intro g cap7 w7 hown hgr hat hlt;obtain⟨hgx,hap⟩:=row_apart X4.out hat hH4;have hz7:=hgr.size;rw [HH1.out] at hz7;refine hK.out _ _ (Two2.grown hHeld (by rw [HH1.out];omega) (by rw [HH1.out];omega) hgr (hap _ A9.out).2 (hap _ A9.out).2) (fun hHeld=>?_);clear hK K
           (try simp only [Act.put]);(try simp only [List.setIfInBounds_toArray]);(try simp only [List.set_cons_succ]);(try simp only [List.set_cons_zero])
           obtain⟨n0,n1,n2,n3,n4,n5,n6,n7,n8,n9,n10,n11,f0,f1,f2,f3,f4',f5',f6,f7,f8,f9,f10,f11⟩:=own_new hown (by rw [flat_len pcC_len,HN.out]);have hat2:(Value.slice qv N cv).ownBlock=some g∨g=(w5).heap.size:=(by rw [HH1.out];exact hat);have PS:=Lh (outP_s (E:=(w4.alloc (.cells #[.int .i64 0,.int .i64 0,.int .i64 0,.string ⟨#[]⟩,.slice none 0 0,.string ⟨#[]⟩,.string ⟨#[]⟩,.slice none 0 0,.slice none 0 0,.slice none 0 0,.slice none 0 0,.slice none 0 0] 55)).drew) X4.out (by show w4.heap.size≤(w4.alloc _).heap.size;rw [World.size_alloc];exact Nat.le_succ _) hW5.out hgr hat2 HNM.out H7.out H10.out H11.out);have hx4:=X4.out.bx.lt;have bx7:w7.cell? ⟨xb,1,none⟩=some (.slice qv N cv):=(World.cell?_of_block (hgr.block xb (by rw [HH1.out];omega) (fun e=>X4.out.ne e.symm))).trans (BX7.out.c 1 _ rfl);have fx7:w7.frozen? ⟨xb,1,none⟩=false:=(World.frozen?_of_block (hgr.block xb (by rw [HH1.out];omega) (fun e=>X4.out.ne e.symm))).trans (BX7.out.f 1);have hxg:xb≠g:=(fun e=>hgx e.symm);have P1:=Lh (X4.out.push (W1:=w5) HN.out hxb BW4.out.size hW1.out hown hgr hat2 (Below.refl _ _) PS.out (OPC.out _ _ _));have P2:=Lh (X4.out.push2 (W1:=w5) HN.out hxb BW4.out.size hW1.out hown hgr hat2 (Below.refl _ _) hgx PS.out (OPC.out _ _ _));have ha9:=(hap _ A9.out).1;clear hown hgr hat hat2 PS;refine wpAnyH_take (i:=9) (v:=(.pointer (some ⟨g,N*12,none⟩))) rfl (by kernel_rfl) (by kernel_rfl) (by kernel_rfl) (fun _ _ _ h=>h) (Or.inl ⟨by rfl,?_⟩) hHeld ?_
           ·intro W hSw
            go_simp
            (intro hh;exfalso;omega)
           (try simp only [Act.put]);(try simp only [List.setIfInBounds_toArray]);(try simp only [List.set_cons_succ]);(try simp only [List.set_cons_zero])
           refine wpAnyH_take (i:=11) (v:=(.pointer (some ⟨xb,0,none⟩))) rfl (by kernel_rfl) (by kernel_rfl) (by kernel_rfl) (fun _ _ _ h=>h) (Or.inl ⟨by rfl,?_⟩) hHeld ?_
           ·intro W hSw
            go_simp
           (try simp only [Act.put]);(try simp only [List.setIfInBounds_toArray]);(try simp only [List.set_cons_succ]);(try simp only [List.set_cons_zero])
           refine wpAnyH_take (i:=12) (v:=(.pointer (some ⟨xb,1,none⟩))) rfl (by kernel_rfl) (by kernel_rfl) (by kernel_rfl) (fun _ _ _ h=>h) (Or.inl ⟨by rfl,?_⟩) hHeld ?_
           ·intro W hSw
            go_simp
           (try simp only [Act.put]);(try simp only [List.setIfInBounds_toArray]);(try simp only [List.set_cons_succ]);(try simp only [List.set_cons_zero])
           refine wpAnyH_ready (rs:=[10,13]) (by kernel_rfl) (by simp) (AllReadyH.cons rfl (fun K hK=>?_) (AllReadyH.cons rfl (fun K hK=>?_) AllReadyH.nil))
           ·go_simp
            refine hK.out _ _ (Two2.set12 hHeld ha9 ha9 _ _ _ _ _ _ _ _ _ _ _ _) (fun hHeld=>?_);clear hK K
            (try simp only [Act.put]);(try simp only [List.setIfInBounds_toArray]);(try simp only [List.set_cons_succ]);(try simp only [List.set_cons_zero])
            refine wpAnyH_ready (rs:=[13]) (by kernel_rfl) (by simp) (AllReadyH.cons rfl (fun K hK=>?_) AllReadyH.nil)
            go_simp
            refine hK.out _ _ (Two2.set hHeld (fun e=>A9.out.2.1 e) (fun e=>A9.out.2.1 e) _) (fun hHeld=>?_);clear hK K
            (try simp only [Act.put]);(try simp only [List.setIfInBounds_toArray]);(try simp only [List.set_cons_succ]);(try simp only [List.set_cons_zero])
            refine wpAnyH_done (by kernel_rfl) ?_ _;refine NoPanic.normal ?_;have HREL:Hid (∃ v' L2',XL xb fb w0.heap.size _ v' (L++L2')∧L2'.map Pc.x=exL fs q σ (l.take (j+1))∧KX xb w1 _∧Below w0.heap.size w0 _):=Lh ⟨_,L2++[outP a _ _ _],by rw [←List.append_assoc];exact P1.out.1,by rw [HTK.out,HEX.out,List.map_append,LW.out];rfl,KW4.out.trans P1.out.2.1,BW4.out.trans P1.out.2.2⟩;clear P1 P2;go_wp2;go_roundw
            case rel =>
             obtain⟨v9,L9,r1,r2,r3,r4⟩:=HREL.out;exact⟨j+1,v9,L9,by omega,by go_num,Lh r1,Lh r2,Lh r3,Lh r4⟩
            case measure=>simp [intOf];omega
           ·go_simp
            refine hK.out _ _ (Two2.set hHeld (fun e=>A9.out.2.1 e) (fun e=>A9.out.2.1 e) _) (fun hHeld=>?_);clear hK K
            (try simp only [Act.put]);(try simp only [List.setIfInBounds_toArray]);(try simp only [List.set_cons_succ]);(try simp only [List.set_cons_zero])
            refine wpAnyH_ready (rs:=[10]) (by kernel_rfl) (by simp) (AllReadyH.cons rfl (fun K hK=>?_) AllReadyH.nil)
            go_simp
            refine hK.out _ _ (Two2.set12 hHeld ha9 ha9 _ _ _ _ _ _ _ _ _ _ _ _) (fun hHeld=>?_);clear hK K
            (try simp only [Act.put]);(try simp only [List.setIfInBounds_toArray]);(try simp only [List.set_cons_succ]);(try simp only [List.set_cons_zero])
            refine wpAnyH_done (by kernel_rfl) ?_ _;refine NoPanic.normal ?_;have HREL:Hid (∃ v' L2',XL xb fb w0.heap.size _ v' (L++L2')∧L2'.map Pc.x=exL fs q σ (l.take (j+1))∧KX xb w1 _∧Below w0.heap.size w0 _):=Lh ⟨_,L2++[outP a _ _ _],by rw [←List.append_assoc];exact P2.out.1,by rw [HTK.out,HEX.out,List.map_append,LW.out];rfl,KW4.out.trans P2.out.2.1,BW4.out.trans P2.out.2.2⟩;clear P1 P2;go_wp2;go_roundw
            case rel =>
             obtain⟨v9,L9,r1,r2,r3,r4⟩:=HREL.out;exact⟨j+1,v9,L9,by omega,by go_num,Lh r1,Lh r2,Lh r3,Lh r4⟩
            case measure=>simp [intOf];omega
        ·go_simp
         (with_reducible refine (HO.out _ ((Below.refl _ _).drew)).mono ?_)
         rintro x w5 ⟨a7,a10,a11,rfl,h7,h10,h11,hb5⟩;obtain⟨q7,c7,rfl,_⟩:=id h7;obtain⟨q10,c10,rfl,_⟩:=id h10;obtain⟨q11,c11,rfl,_⟩:=id h11;have H7:=Lh h7;have H10:=Lh h10;have H11:=Lh h11;have HB5':=Lh hb5;have HB45:=Lh (Below.then_ ((Below.refl _ _).drew) hb5);have hz45:=HB45.out.size;have hT5:Two2 w4 wr.heap.size wr.heap.size w5:=⟨HB45.out.block _ hl9,HB45.out.block _ hl9⟩;clear h7 h10 h11 hb5
         (try go_wp2_with fail)
         refine hK.out _ _ hT5 (fun hHeld=>?_);clear hK K
         (try simp only [Act.put]);(try simp only [List.setIfInBounds_toArray]);(try simp only [List.set_cons_succ]);(try simp only [List.set_cons_zero])
         refine wpAnyH_ready (rs:=[3,7]) (by kernel_rfl) (by simp) (AllReadyH.cons rfl (fun K hK=>?_) (AllReadyH.cons rfl (fun K hK=>?_) AllReadyH.nil))
         ·have x1:(w5).cell? ⟨xb,1,none⟩=some (.slice qv N cv):=(X4.out.bx.stay HB45.out).c 1 _ rfl
          go_simp
          refine hK.out _ _ hHeld (fun hHeld=>?_);clear hK K
          (try simp only [Act.put]);(try simp only [List.setIfInBounds_toArray]);(try simp only [List.set_cons_succ]);(try simp only [List.set_cons_zero])
          clear x1;refine wpAnyH_take (i:=6) (v:=(.int .i64 N)) rfl (by kernel_rfl) (by kernel_rfl) (by kernel_rfl) (fun _ _ _ h=>h) (Or.inl ⟨by rfl,?_⟩) hHeld ?_
          ·intro W hSw
           go_simp
          (try simp only [Act.put]);(try simp only [List.setIfInBounds_toArray]);(try simp only [List.set_cons_succ]);(try simp only [List.set_cons_zero])
          refine wpAnyH_ready (rs:=[7]) (by kernel_rfl) (by simp) (AllReadyH.cons rfl (fun K hK=>?_) AllReadyH.nil)
          ·have hT7:Two2 w4 wr.heap.size wr.heap.size (w5.alloc (.cells #[.int .i64 0,.int .i64 0,.int .i64 0,.string ⟨#[]⟩,.slice none 0 0,.string ⟨#[]⟩,.string ⟨#[]⟩,.slice none 0 0,.slice none 0 0,.slice none 0 0,.slice none 0 0,.slice none 0 0] 55)):=⟨((HB45.out.then_ (ba w5 _))).block _ hl9,((HB45.out.then_ (ba w5 _))).block _ hl9⟩
           go_simp
           refine hK.out _ _ hT7 (fun hHeld=>?_);clear hK K
           (try simp only [Act.put]);(try simp only [List.setIfInBounds_toArray]);(try simp only [List.set_cons_succ]);(try simp only [List.set_cons_zero])
           have hW1:Hid (Below w4.heap.size w4 (w5.alloc (.cells #[.int .i64 0,.int .i64 0,.int .i64 0,.string ⟨#[]⟩,.slice none 0 0,.string ⟨#[]⟩,.string ⟨#[]⟩,.slice none 0 0,.slice none 0 0,.slice none 0 0,.slice none 0 0,.slice none 0 0] 55))):=Lh (HB45.out.then_ (ba w5 _));have hW5:Hid (Below w5.heap.size w5 (w5.alloc (.cells #[.int .i64 0,.int .i64 0,.int .i64 0,.string ⟨#[]⟩,.slice none 0 0,.string ⟨#[]⟩,.string ⟨#[]⟩,.slice none 0 0,.slice none 0 0,.slice none 0 0,.slice none 0 0,.slice none 0 0] 55))):=Lh (ba w5 _);have XR7:=Lh (own_later XR.out hW1.out);have BX7:=Lh (X4.out.bx.stay hW1.out);obtain⟨H1,hH1⟩:∃ H,(w5.alloc (.cells #[.int .i64 0,.int .i64 0,.int .i64 0,.string ⟨#[]⟩,.slice none 0 0,.string ⟨#[]⟩,.string ⟨#[]⟩,.slice none 0 0,.slice none 0 0,.slice none 0 0,.slice none 0 0,.slice none 0 0] 55)).heap.size=H:=⟨_,rfl⟩;have HH1:=Lh hH1;have hH4:w4.heap.size≤H1:=(by have:=hW1.out.size;rw [hH1] at this;exact this);clear hH1;refine wpAnyH_ready (rs:=[8]) (by kernel_rfl) (by simp) (AllReadyH.cons rfl (fun K hK=>?_) AllReadyH.nil);refine step_append_lies _ (by rfl) (.tmp 31) (.tmp 35) 22 (by rfl) w0.heap.size 55 i0 (.agg #[.int .i64 0,.int .i64 0,.int .i64 0,.string ⟨#[]⟩,.slice none 0 0,.string ⟨#[]⟩,.string ⟨#[]⟩,.slice none 0 0,.slice none 0 0,.slice none 0 0,.slice none 0 0,.slice none 0 0]) 12 216 Tryz.underlying22 hi iz0 iz1 iz2 rfl (by decide) (.slice qv N cv) N ((L++L2).flatMap pcC) (by rfl) XR7.out ⟨w5.heap.size,0,none⟩ 1 1 [.int .i64 0,.int .i64 0,.int .i64 0,.string ⟨#[]⟩,.slice none 0 0,.string ⟨#[]⟩,.string ⟨#[]⟩,.slice none 0 0,.slice none 0 0,.slice none 0 0,.slice none 0 0,.slice none 0 0] (by rfl) rfl (World.news_of_block (cs:=#[.int .i64 0,.int .i64 0,.int .i64 0,.string ⟨#[]⟩,.slice none 0 0,.string ⟨#[]⟩,.string ⟨#[]⟩,.slice none 0 0,.slice none 0 0,.slice none 0 0,.slice none 0 0,.slice none 0 0]) (heap_alloc_new w5 _)) (one_12 _ _ _ _ _ (by simp [Value.oneCell'])) (by omega) (by unfold maxLen;omega) (by omega) (Nat.le_trans BW4.out.size hW1.out.size) H1 HH1.out ?_;intro g cap7 w7 hown hgr hat hlt;obtain⟨hgx,hap⟩:=row_apart X4.out hat hH4;have hz7:=hgr.size;rw [HH1.out] at hz7;refine hK.out _ _ (Two2.grown hHeld (by rw [HH1.out];omega) (by rw [HH1.out];omega) hgr (hap _ A9.out).2 (hap _ A9.out).2) (fun hHeld=>?_);clear hK K
           (try simp only [Act.put]);(try simp only [List.setIfInBounds_toArray]);(try simp only [List.set_cons_succ]);(try simp only [List.set_cons_zero])
           obtain⟨n0,n1,n2,n3,n4,n5,n6,n7,n8,n9,n10,n11,f0,f1,f2,f3,f4',f5',f6,f7,f8,f9,f10,f11⟩:=own_new hown (by rw [flat_len pcC_len,HN.out]);have hat2:(Value.slice qv N cv).ownBlock=some g∨g=(w5.alloc (.cells #[.int .i64 0,.int .i64 0,.int .i64 0,.string ⟨#[]⟩,.slice none 0 0,.string ⟨#[]⟩,.string ⟨#[]⟩,.slice none 0 0,.slice none 0 0,.slice none 0 0,.slice none 0 0,.slice none 0 0] 55)).heap.size:=(by rw [HH1.out];exact hat);have PS:=Lh (outP_s (E:=w4.drew) X4.out (Nat.le_refl _) hW5.out hgr hat2 HNM.out H7.out H10.out H11.out);have hx4:=X4.out.bx.lt;have bx7:w7.cell? ⟨xb,1,none⟩=some (.slice qv N cv):=(World.cell?_of_block (hgr.block xb (by rw [HH1.out];omega) (fun e=>X4.out.ne e.symm))).trans (BX7.out.c 1 _ rfl);have fx7:w7.frozen? ⟨xb,1,none⟩=false:=(World.frozen?_of_block (hgr.block xb (by rw [HH1.out];omega) (fun e=>X4.out.ne e.symm))).trans (BX7.out.f 1);have hxg:xb≠g:=(fun e=>hgx e.symm);have P1:=Lh (X4.out.push (W1:=w5.alloc (.cells #[.int .i64 0,.int .i64 0,.int .i64 0,.string ⟨#[]⟩,.slice none 0 0,.string ⟨#[]⟩,.string ⟨#[]⟩,.slice none 0 0,.slice none 0 0,.slice none 0 0,.slice none 0 0,.slice none 0 0] 55)) HN.out hxb BW4.out.size hW1.out hown hgr hat2 (Below.refl _ _) PS.out (OPC.out _ _ _));have P2:=Lh (X4.out.push2 (W1:=w5.alloc (.cells #[.int .i64 0,.int .i64 0,.int .i64 0,.string ⟨#[]⟩,.slice none 0 0,.string ⟨#[]⟩,.string ⟨#[]⟩,.slice none 0 0,.slice none 0 0,.slice none 0 0,.slice none 0 0,.slice none 0 0] 55)) HN.out hxb BW4.out.size hW1.out hown hgr hat2 (Below.refl _ _) hgx PS.out (OPC.out _ _ _));have ha9:=(hap _ A9.out).1;clear hown hgr hat hat2 PS;refine wpAnyH_take (i:=9) (v:=(.pointer (some ⟨g,N*12,none⟩))) rfl (by kernel_rfl) (by kernel_rfl) (by kernel_rfl) (fun _ _ _ h=>h) (Or.inl ⟨by rfl,?_⟩) hHeld ?_
           ·intro W hSw
            go_simp
            (intro hh;exfalso;omega)
           (try simp only [Act.put]);(try simp only [List.setIfInBounds_toArray]);(try simp only [List.set_cons_succ]);(try simp only [List.set_cons_zero])
           refine wpAnyH_take (i:=11) (v:=(.pointer (some ⟨xb,0,none⟩))) rfl (by kernel_rfl) (by kernel_rfl) (by kernel_rfl) (fun _ _ _ h=>h) (Or.inl ⟨by rfl,?_⟩) hHeld ?_
           ·intro W hSw
            go_simp
           (try simp only [Act.put]);(try simp only [List.setIfInBounds_toArray]);(try simp only [List.set_cons_succ]);(try simp only [List.set_cons_zero])
           refine wpAnyH_take (i:=12) (v:=(.pointer (some ⟨xb,1,none⟩))) rfl (by kernel_rfl) (by kernel_rfl) (by kernel_rfl) (fun _ _ _ h=>h) (Or.inl ⟨by rfl,?_⟩) hHeld ?_
           ·intro W hSw
            go_simp
           (try simp only [Act.put]);(try simp only [List.setIfInBounds_toArray]);(try simp only [List.set_cons_succ]);(try simp only [List.set_cons_zero])
           refine wpAnyH_ready (rs:=[10,13]) (by kernel_rfl) (by simp) (AllReadyH.cons rfl (fun K hK=>?_) (AllReadyH.cons rfl (fun K hK=>?_) AllReadyH.nil))
           ·go_simp
            refine hK.out _ _ (Two2.set12 hHeld ha9 ha9 _ _ _ _ _ _ _ _ _ _ _ _) (fun hHeld=>?_);clear hK K
            (try simp only [Act.put]);(try simp only [List.setIfInBounds_toArray]);(try simp only [List.set_cons_succ]);(try simp only [List.set_cons_zero])
            refine wpAnyH_ready (rs:=[13]) (by kernel_rfl) (by simp) (AllReadyH.cons rfl (fun K hK=>?_) AllReadyH.nil)
            go_simp
            refine hK.out _ _ (Two2.set hHeld (fun e=>A9.out.2.1 e) (fun e=>A9.out.2.1 e) _) (fun hHeld=>?_);clear hK K
            (try simp only [Act.put]);(try simp only [List.setIfInBounds_toArray]);(try simp only [List.set_cons_succ]);(try simp only [List.set_cons_zero])
            refine wpAnyH_done (by kernel_rfl) ?_ _;refine NoPanic.normal ?_;have HREL:Hid (∃ v' L2',XL xb fb w0.heap.size _ v' (L++L2')∧L2'.map Pc.x=exL fs q σ (l.take (j+1))∧KX xb w1 _∧Below w0.heap.size w0 _):=Lh ⟨_,L2++[outP a _ _ _],by rw [←List.append_assoc];exact P1.out.1,by rw [HTK.out,HEX.out,List.map_append,LW.out];rfl,KW4.out.trans P1.out.2.1,BW4.out.trans P1.out.2.2⟩;clear P1 P2;go_wp2;go_roundw
            case rel =>
             obtain⟨v9,L9,r1,r2,r3,r4⟩:=HREL.out;exact⟨j+1,v9,L9,by omega,by go_num,Lh r1,Lh r2,Lh r3,Lh r4⟩
            case measure=>simp [intOf];omega
           ·go_simp
            refine hK.out _ _ (Two2.set hHeld (fun e=>A9.out.2.1 e) (fun e=>A9.out.2.1 e) _) (fun hHeld=>?_);clear hK K
            (try simp only [Act.put]);(try simp only [List.setIfInBounds_toArray]);(try simp only [List.set_cons_succ]);(try simp only [List.set_cons_zero])
            refine wpAnyH_ready (rs:=[10]) (by kernel_rfl) (by simp) (AllReadyH.cons rfl (fun K hK=>?_) AllReadyH.nil)
            go_simp
            refine hK.out _ _ (Two2.set12 hHeld ha9 ha9 _ _ _ _ _ _ _ _ _ _ _ _) (fun hHeld=>?_);clear hK K
            (try simp only [Act.put]);(try simp only [List.setIfInBounds_toArray]);(try simp only [List.set_cons_succ]);(try simp only [List.set_cons_zero])
            refine wpAnyH_done (by kernel_rfl) ?_ _;refine NoPanic.normal ?_;have HREL:Hid (∃ v' L2',XL xb fb w0.heap.size _ v' (L++L2')∧L2'.map Pc.x=exL fs q σ (l.take (j+1))∧KX xb w1 _∧Below w0.heap.size w0 _):=Lh ⟨_,L2++[outP a _ _ _],by rw [←List.append_assoc];exact P2.out.1,by rw [HTK.out,HEX.out,List.map_append,LW.out];rfl,KW4.out.trans P2.out.2.1,BW4.out.trans P2.out.2.2⟩;clear P1 P2;go_wp2;go_roundw
            case rel =>
             obtain⟨v9,L9,r1,r2,r3,r4⟩:=HREL.out;exact⟨j+1,v9,L9,by omega,by go_num,Lh r1,Lh r2,Lh r3,Lh r4⟩
            case measure=>simp [intOf];omega
         ·have hT7:Two2 w4 wr.heap.size wr.heap.size (w5.alloc (.cells #[.int .i64 0,.int .i64 0,.int .i64 0,.string ⟨#[]⟩,.slice none 0 0,.string ⟨#[]⟩,.string ⟨#[]⟩,.slice none 0 0,.slice none 0 0,.slice none 0 0,.slice none 0 0,.slice none 0 0] 55)):=⟨((HB45.out.then_ (ba w5 _))).block _ hl9,((HB45.out.then_ (ba w5 _))).block _ hl9⟩
          go_simp
          refine hK.out _ _ hT7 (fun hHeld=>?_);clear hK K
          (try simp only [Act.put]);(try simp only [List.setIfInBounds_toArray]);(try simp only [List.set_cons_succ]);(try simp only [List.set_cons_zero])
          refine wpAnyH_ready (rs:=[3]) (by kernel_rfl) (by simp) (AllReadyH.cons rfl (fun K hK=>?_) AllReadyH.nil)
          ·have x1:(w5.alloc (.cells #[.int .i64 0,.int .i64 0,.int .i64 0,.string ⟨#[]⟩,.slice none 0 0,.string ⟨#[]⟩,.string ⟨#[]⟩,.slice none 0 0,.slice none 0 0,.slice none 0 0,.slice none 0 0,.slice none 0 0] 55)).cell? ⟨xb,1,none⟩=some (.slice qv N cv):=(X4.out.bx.stay (HB45.out.then_ (ba w5 _))).c 1 _ rfl
           go_simp
           refine hK.out _ _ hHeld (fun hHeld=>?_);clear hK K
           (try simp only [Act.put]);(try simp only [List.setIfInBounds_toArray]);(try simp only [List.set_cons_succ]);(try simp only [List.set_cons_zero])
           clear x1;refine wpAnyH_take (i:=6) (v:=(.int .i64 N)) rfl (by kernel_rfl) (by kernel_rfl) (by kernel_rfl) (fun _ _ _ h=>h) (Or.inl ⟨by rfl,?_⟩) hHeld ?_
           ·intro W hSw
            go_simp
           (try simp only [Act.put]);(try simp only [List.setIfInBounds_toArray]);(try simp only [List.set_cons_succ]);(try simp only [List.set_cons_zero])
           have hW1:Hid (Below w4.heap.size w4 (w5.alloc (.cells #[.int .i64 0,.int .i64 0,.int .i64 0,.string ⟨#[]⟩,.slice none 0 0,.string ⟨#[]⟩,.string ⟨#[]⟩,.slice none 0 0,.slice none 0 0,.slice none 0 0,.slice none 0 0,.slice none 0 0] 55))):=Lh (HB45.out.then_ (ba w5 _));have hW5:Hid (Below w5.heap.size w5 (w5.alloc (.cells #[.int .i64 0,.int .i64 0,.int .i64 0,.string ⟨#[]⟩,.slice none 0 0,.string ⟨#[]⟩,.string ⟨#[]⟩,.slice none 0 0,.slice none 0 0,.slice none 0 0,.slice none 0 0,.slice none 0 0] 55))):=Lh (ba w5 _);have XR7:=Lh (own_later XR.out hW1.out);have BX7:=Lh (X4.out.bx.stay hW1.out);obtain⟨H1,hH1⟩:∃ H,(w5.alloc (.cells #[.int .i64 0,.int .i64 0,.int .i64 0,.string ⟨#[]⟩,.slice none 0 0,.string ⟨#[]⟩,.string ⟨#[]⟩,.slice none 0 0,.slice none 0 0,.slice none 0 0,.slice none 0 0,.slice none 0 0] 55)).heap.size=H:=⟨_,rfl⟩;have HH1:=Lh hH1;have hH4:w4.heap.size≤H1:=(by have:=hW1.out.size;rw [hH1] at this;exact this);clear hH1;refine wpAnyH_ready (rs:=[8]) (by kernel_rfl) (by simp) (AllReadyH.cons rfl (fun K hK=>?_) AllReadyH.nil);refine step_append_lies _ (by rfl) (.tmp 31) (.tmp 35) 22 (by rfl) w0.heap.size 55 i0 (.agg #[.int .i64 0,.int .i64 0,.int .i64 0,.string ⟨#[]⟩,.slice none 0 0,.string ⟨#[]⟩,.string ⟨#[]⟩,.slice none 0 0,.slice none 0 0,.slice none 0 0,.slice none 0 0,.slice none 0 0]) 12 216 Tryz.underlying22 hi iz0 iz1 iz2 rfl (by decide) (.slice qv N cv) N ((L++L2).flatMap pcC) (by rfl) XR7.out ⟨w5.heap.size,0,none⟩ 1 1 [.int .i64 0,.int .i64 0,.int .i64 0,.string ⟨#[]⟩,.slice none 0 0,.string ⟨#[]⟩,.string ⟨#[]⟩,.slice none 0 0,.slice none 0 0,.slice none 0 0,.slice none 0 0,.slice none 0 0] (by rfl) rfl (World.news_of_block (cs:=#[.int .i64 0,.int .i64 0,.int .i64 0,.string ⟨#[]⟩,.slice none 0 0,.string ⟨#[]⟩,.string ⟨#[]⟩,.slice none 0 0,.slice none 0 0,.slice none 0 0,.slice none 0 0,.slice none 0 0]) (heap_alloc_new w5 _)) (one_12 _ _ _ _ _ (by simp [Value.oneCell'])) (by omega) (by unfold maxLen;omega) (by omega) (Nat.le_trans BW4.out.size hW1.out.size) H1 HH1.out ?_;intro g cap7 w7 hown hgr hat hlt;obtain⟨hgx,hap⟩:=row_apart X4.out hat hH4;have hz7:=hgr.size;rw [HH1.out] at hz7;refine hK.out _ _ (Two2.grown hHeld (by rw [HH1.out];omega) (by rw [HH1.out];omega) hgr (hap _ A9.out).2 (hap _ A9.out).2) (fun hHeld=>?_);clear hK K
           (try simp only [Act.put]);(try simp only [List.setIfInBounds_toArray]);(try simp only [List.set_cons_succ]);(try simp only [List.set_cons_zero])
           obtain⟨n0,n1,n2,n3,n4,n5,n6,n7,n8,n9,n10,n11,f0,f1,f2,f3,f4',f5',f6,f7,f8,f9,f10,f11⟩:=own_new hown (by rw [flat_len pcC_len,HN.out]);have hat2:(Value.slice qv N cv).ownBlock=some g∨g=(w5.alloc (.cells #[.int .i64 0,.int .i64 0,.int .i64 0,.string ⟨#[]⟩,.slice none 0 0,.string ⟨#[]⟩,.string ⟨#[]⟩,.slice none 0 0,.slice none 0 0,.slice none 0 0,.slice none 0 0,.slice none 0 0] 55)).heap.size:=(by rw [HH1.out];exact hat);have PS:=Lh (outP_s (E:=w4.drew) X4.out (Nat.le_refl _) hW5.out hgr hat2 HNM.out H7.out H10.out H11.out);have hx4:=X4.out.bx.lt;have bx7:w7.cell? ⟨xb,1,none⟩=some (.slice qv N cv):=(World.cell?_of_block (hgr.block xb (by rw [HH1.out];omega) (fun e=>X4.out.ne e.symm))).trans (BX7.out.c 1 _ rfl);have fx7:w7.frozen? ⟨xb,1,none⟩=false:=(World.frozen?_of_block (hgr.block xb (by rw [HH1.out];omega) (fun e=>X4.out.ne e.symm))).trans (BX7.out.f 1);have hxg:xb≠g:=(fun e=>hgx e.symm);have P1:=Lh (X4.out.push (W1:=w5.alloc (.cells #[.int .i64 0,.int .i64 0,.int .i64 0,.string ⟨#[]⟩,.slice none 0 0,.string ⟨#[]⟩,.string ⟨#[]⟩,.slice none 0 0,.slice none 0 0,.slice none 0 0,.slice none 0 0,.slice none 0 0] 55)) HN.out hxb BW4.out.size hW1.out hown hgr hat2 (Below.refl _ _) PS.out (OPC.out _ _ _));have P2:=Lh (X4.out.push2 (W1:=w5.alloc (.cells #[.int .i64 0,.int .i64 0,.int .i64 0,.string ⟨#[]⟩,.slice none 0 0,.string ⟨#[]⟩,.string ⟨#[]⟩,.slice none 0 0,.slice none 0 0,.slice none 0 0,.slice none 0 0,.slice none 0 0] 55)) HN.out hxb BW4.out.size hW1.out hown hgr hat2 (Below.refl _ _) hgx PS.out (OPC.out _ _ _));have ha9:=(hap _ A9.out).1;clear hown hgr hat hat2 PS;refine wpAnyH_take (i:=9) (v:=(.pointer (some ⟨g,N*12,none⟩))) rfl (by kernel_rfl) (by kernel_rfl) (by kernel_rfl) (fun _ _ _ h=>h) (Or.inl ⟨by rfl,?_⟩) hHeld ?_
           ·intro W hSw
            go_simp
            (intro hh;exfalso;omega)
           (try simp only [Act.put]);(try simp only [List.setIfInBounds_toArray]);(try simp only [List.set_cons_succ]);(try simp only [List.set_cons_zero])
           refine wpAnyH_take (i:=11) (v:=(.pointer (some ⟨xb,0,none⟩))) rfl (by kernel_rfl) (by kernel_rfl) (by kernel_rfl) (fun _ _ _ h=>h) (Or.inl ⟨by rfl,?_⟩) hHeld ?_
           ·intro W hSw
            go_simp
           (try simp only [Act.put]);(try simp only [List.setIfInBounds_toArray]);(try simp only [List.set_cons_succ]);(try simp only [List.set_cons_zero])
           refine wpAnyH_take (i:=12) (v:=(.pointer (some ⟨xb,1,none⟩))) rfl (by kernel_rfl) (by kernel_rfl) (by kernel_rfl) (fun _ _ _ h=>h) (Or.inl ⟨by rfl,?_⟩) hHeld ?_
           ·intro W hSw
            go_simp
           (try simp only [Act.put]);(try simp only [List.setIfInBounds_toArray]);(try simp only [List.set_cons_succ]);(try simp only [List.set_cons_zero])
           refine wpAnyH_ready (rs:=[10,13]) (by kernel_rfl) (by simp) (AllReadyH.cons rfl (fun K hK=>?_) (AllReadyH.cons rfl (fun K hK=>?_) AllReadyH.nil))
           ·go_simp
            refine hK.out _ _ (Two2.set12 hHeld ha9 ha9 _ _ _ _ _ _ _ _ _ _ _ _) (fun hHeld=>?_);clear hK K
            (try simp only [Act.put]);(try simp only [List.setIfInBounds_toArray]);(try simp only [List.set_cons_succ]);(try simp only [List.set_cons_zero])
            refine wpAnyH_ready (rs:=[13]) (by kernel_rfl) (by simp) (AllReadyH.cons rfl (fun K hK=>?_) AllReadyH.nil)
            go_simp
            refine hK.out _ _ (Two2.set hHeld (fun e=>A9.out.2.1 e) (fun e=>A9.out.2.1 e) _) (fun hHeld=>?_);clear hK K
            (try simp only [Act.put]);(try simp only [List.setIfInBounds_toArray]);(try simp only [List.set_cons_succ]);(try simp only [List.set_cons_zero])
            refine wpAnyH_done (by kernel_rfl) ?_ _;refine NoPanic.normal ?_;have HREL:Hid (∃ v' L2',XL xb fb w0.heap.size _ v' (L++L2')∧L2'.map Pc.x=exL fs q σ (l.take (j+1))∧KX xb w1 _∧Below w0.heap.size w0 _):=Lh ⟨_,L2++[outP a _ _ _],by rw [←List.append_assoc];exact P1.out.1,by rw [HTK.out,HEX.out,List.map_append,LW.out];rfl,KW4.out.trans P1.out.2.1,BW4.out.trans P1.out.2.2⟩;clear P1 P2;go_wp2;go_roundw
            case rel =>
             obtain⟨v9,L9,r1,r2,r3,r4⟩:=HREL.out;exact⟨j+1,v9,L9,by omega,by go_num,Lh r1,Lh r2,Lh r3,Lh r4⟩
            case measure=>simp [intOf];omega
           ·go_simp
            refine hK.out _ _ (Two2.set hHeld (fun e=>A9.out.2.1 e) (fun e=>A9.out.2.1 e) _) (fun hHeld=>?_);clear hK K
            (try simp only [Act.put]);(try simp only [List.setIfInBounds_toArray]);(try simp only [List.set_cons_succ]);(try simp only [List.set_cons_zero])
            refine wpAnyH_ready (rs:=[10]) (by kernel_rfl) (by simp) (AllReadyH.cons rfl (fun K hK=>?_) AllReadyH.nil)
            go_simp
            refine hK.out _ _ (Two2.set12 hHeld ha9 ha9 _ _ _ _ _ _ _ _ _ _ _ _) (fun hHeld=>?_);clear hK K
            (try simp only [Act.put]);(try simp only [List.setIfInBounds_toArray]);(try simp only [List.set_cons_succ]);(try simp only [List.set_cons_zero])
            refine wpAnyH_done (by kernel_rfl) ?_ _;refine NoPanic.normal ?_;have HREL:Hid (∃ v' L2',XL xb fb w0.heap.size _ v' (L++L2')∧L2'.map Pc.x=exL fs q σ (l.take (j+1))∧KX xb w1 _∧Below w0.heap.size w0 _):=Lh ⟨_,L2++[outP a _ _ _],by rw [←List.append_assoc];exact P2.out.1,by rw [HTK.out,HEX.out,List.map_append,LW.out];rfl,KW4.out.trans P2.out.2.1,BW4.out.trans P2.out.2.2⟩;clear P1 P2;go_wp2;go_roundw
            case rel =>
             obtain⟨v9,L9,r1,r2,r3,r4⟩:=HREL.out;exact⟨j+1,v9,L9,by omega,by go_num,Lh r1,Lh r2,Lh r3,Lh r4⟩
            case measure=>simp [intOf];omega
        ·have hT7:Two2 w4 wr.heap.size wr.heap.size ((w4.alloc (.cells #[.int .i64 0,.int .i64 0,.int .i64 0,.string ⟨#[]⟩,.slice none 0 0,.string ⟨#[]⟩,.string ⟨#[]⟩,.slice none 0 0,.slice none 0 0,.slice none 0 0,.slice none 0 0,.slice none 0 0] 55)).drew):=⟨(((ba w4 _).drew)).block _ hl9,(((ba w4 _).drew)).block _ hl9⟩
         go_simp
         refine hK.out _ _ hT7 (fun hHeld=>?_);clear hK K
         (try simp only [Act.put]);(try simp only [List.setIfInBounds_toArray]);(try simp only [List.set_cons_succ]);(try simp only [List.set_cons_zero])
         refine wpAnyH_ready (rs:=[3,5]) (by kernel_rfl) (by simp) (AllReadyH.cons rfl (fun K hK=>?_) (AllReadyH.cons rfl (fun K hK=>?_) AllReadyH.nil))
         ·have x1:((w4.alloc (.cells #[.int .i64 0,.int .i64 0,.int .i64 0,.string ⟨#[]⟩,.slice none 0 0,.string ⟨#[]⟩,.string ⟨#[]⟩,.slice none 0 0,.slice none 0 0,.slice none 0 0,.slice none 0 0,.slice none 0 0] 55)).drew).cell? ⟨xb,1,none⟩=some (.slice qv N cv):=(X4.out.bx.stay ((ba w4 _).drew)).c 1 _ rfl
          go_simp
          refine hK.out _ _ hHeld (fun hHeld=>?_);clear hK K
          (try simp only [Act.put]);(try simp only [List.setIfInBounds_toArray]);(try simp only [List.set_cons_succ]);(try simp only [List.set_cons_zero])
          clear x1;refine wpAnyH_take (i:=6) (v:=(.int .i64 N)) rfl (by kernel_rfl) (by kernel_rfl) (by kernel_rfl) (fun _ _ _ h=>h) (Or.inl ⟨by rfl,?_⟩) hHeld ?_
          ·intro W hSw
           go_simp
          (try simp only [Act.put]);(try simp only [List.setIfInBounds_toArray]);(try simp only [List.set_cons_succ]);(try simp only [List.set_cons_zero])
          refine wpAnyH_ready (rs:=[5]) (by kernel_rfl) (by simp) (AllReadyH.cons rfl (fun K hK=>?_) AllReadyH.nil)
          ·go_simp
           (with_reducible refine (HO.out _ ((ba w4 _).drew)).mono ?_)
           rintro x w5 ⟨a7,a10,a11,rfl,h7,h10,h11,hb5⟩;obtain⟨q7,c7,rfl,_⟩:=id h7;obtain⟨q10,c10,rfl,_⟩:=id h10;obtain⟨q11,c11,rfl,_⟩:=id h11;have H7:=Lh h7;have H10:=Lh h10;have H11:=Lh h11;have HB5':=Lh hb5;have HB45:=Lh (Below.then_ ((ba w4 _).drew) hb5);have hz45:=HB45.out.size;have hT5:Two2 w4 wr.heap.size wr.heap.size w5:=⟨HB45.out.block _ hl9,HB45.out.block _ hl9⟩;clear h7 h10 h11 hb5
           (try go_wp2_with fail)
           refine hK.out _ _ hT5 (fun hHeld=>?_);clear hK K
           (try simp only [Act.put]);(try simp only [List.setIfInBounds_toArray]);(try simp only [List.set_cons_succ]);(try simp only [List.set_cons_zero])
           have hW1:Hid (Below w4.heap.size w4 (w5)):=Lh HB45.out;have hW5:Hid (Below w5.heap.size w5 (w5)):=Lh (Below.refl _ _);have hnb:Hid (w5.heap[w4.heap.size]? = some (.cells #[.int .i64 0,.int .i64 0,.int .i64 0,.string ⟨#[]⟩,.slice none 0 0,.string ⟨#[]⟩,.string ⟨#[]⟩,.slice none 0 0,.slice none 0 0,.slice none 0 0,.slice none 0 0,.slice none 0 0] 55)):=Lh ((HB5'.out.block w4.heap.size (by show _<(w4.alloc _).heap.size;rw [World.size_alloc];exact Nat.lt_succ_self _)).trans (heap_alloc_new w4 _));have XR7:=Lh (own_later XR.out hW1.out);have BX7:=Lh (X4.out.bx.stay hW1.out);obtain⟨H1,hH1⟩:∃ H,(w5).heap.size=H:=⟨_,rfl⟩;have HH1:=Lh hH1;have hH4:w4.heap.size≤H1:=(by have:=hW1.out.size;rw [hH1] at this;exact this);clear hH1;refine wpAnyH_ready (rs:=[8]) (by kernel_rfl) (by simp) (AllReadyH.cons rfl (fun K hK=>?_) AllReadyH.nil);refine step_append_lies _ (by rfl) (.tmp 31) (.tmp 35) 22 (by rfl) w0.heap.size 55 i0 (.agg #[.int .i64 0,.int .i64 0,.int .i64 0,.string ⟨#[]⟩,.slice none 0 0,.string ⟨#[]⟩,.string ⟨#[]⟩,.slice none 0 0,.slice none 0 0,.slice none 0 0,.slice none 0 0,.slice none 0 0]) 12 216 Tryz.underlying22 hi iz0 iz1 iz2 rfl (by decide) (.slice qv N cv) N ((L++L2).flatMap pcC) (by rfl) XR7.out ⟨w4.heap.size,0,none⟩ 1 1 [.int .i64 0,.int .i64 0,.int .i64 0,.string ⟨#[]⟩,.slice none 0 0,.string ⟨#[]⟩,.string ⟨#[]⟩,.slice none 0 0,.slice none 0 0,.slice none 0 0,.slice none 0 0,.slice none 0 0] (by rfl) rfl (World.news_of_block (cs:=#[.int .i64 0,.int .i64 0,.int .i64 0,.string ⟨#[]⟩,.slice none 0 0,.string ⟨#[]⟩,.string ⟨#[]⟩,.slice none 0 0,.slice none 0 0,.slice none 0 0,.slice none 0 0,.slice none 0 0]) (hnb.out)) (one_12 _ _ _ _ _ (by simp [Value.oneCell'])) (by omega) (by unfold maxLen;omega) (by omega) (Nat.le_trans BW4.out.size hW1.out.size) H1 HH1.out ?_;intro g cap7 w7 hown hgr hat hlt;obtain⟨hgx,hap⟩:=row_apart X4.out hat hH4;have hz7:=hgr.size;rw [HH1.out] at hz7;refine hK.out _ _ (Two2.grown hHeld (by rw [HH1.out];omega) (by rw [HH1.out];omega) hgr (hap _ A9.out).2 (hap _ A9.out).2) (fun hHeld=>?_);clear hK K
           (try simp only [Act.put]);(try simp only [List.setIfInBounds_toArray]);(try simp only [List.set_cons_succ]);(try simp only [List.set_cons_zero])
           obtain⟨n0,n1,n2,n3,n4,n5,n6,n7,n8,n9,n10,n11,f0,f1,f2,f3,f4',f5',f6,f7,f8,f9,f10,f11⟩:=own_new hown (by rw [flat_len pcC_len,HN.out]);have hat2:(Value.slice qv N cv).ownBlock=some g∨g=(w5).heap.size:=(by rw [HH1.out];exact hat);have PS:=Lh (outP_s (E:=(w4.alloc (.cells #[.int .i64 0,.int .i64 0,.int .i64 0,.string ⟨#[]⟩,.slice none 0 0,.string ⟨#[]⟩,.string ⟨#[]⟩,.slice none 0 0,.slice none 0 0,.slice none 0 0,.slice none 0 0,.slice none 0 0] 55)).drew) X4.out (by show w4.heap.size≤(w4.alloc _).heap.size;rw [World.size_alloc];exact Nat.le_succ _) hW5.out hgr hat2 HNM.out H7.out H10.out H11.out);have hx4:=X4.out.bx.lt;have bx7:w7.cell? ⟨xb,1,none⟩=some (.slice qv N cv):=(World.cell?_of_block (hgr.block xb (by rw [HH1.out];omega) (fun e=>X4.out.ne e.symm))).trans (BX7.out.c 1 _ rfl);have fx7:w7.frozen? ⟨xb,1,none⟩=false:=(World.frozen?_of_block (hgr.block xb (by rw [HH1.out];omega) (fun e=>X4.out.ne e.symm))).trans (BX7.out.f 1);have hxg:xb≠g:=(fun e=>hgx e.symm);have P1:=Lh (X4.out.push (W1:=w5) HN.out hxb BW4.out.size hW1.out hown hgr hat2 (Below.refl _ _) PS.out (OPC.out _ _ _));have P2:=Lh (X4.out.push2 (W1:=w5) HN.out hxb BW4.out.size hW1.out hown hgr hat2 (Below.refl _ _) hgx PS.out (OPC.out _ _ _));have ha9:=(hap _ A9.out).1;clear hown hgr hat hat2 PS;refine wpAnyH_take (i:=9) (v:=(.pointer (some ⟨g,N*12,none⟩))) rfl (by kernel_rfl) (by kernel_rfl) (by kernel_rfl) (fun _ _ _ h=>h) (Or.inl ⟨by rfl,?_⟩) hHeld ?_
           ·intro W hSw
            go_simp
            (intro hh;exfalso;omega)
           (try simp only [Act.put]);(try simp only [List.setIfInBounds_toArray]);(try simp only [List.set_cons_succ]);(try simp only [List.set_cons_zero])
           refine wpAnyH_take (i:=11) (v:=(.pointer (some ⟨xb,0,none⟩))) rfl (by kernel_rfl) (by kernel_rfl) (by kernel_rfl) (fun _ _ _ h=>h) (Or.inl ⟨by rfl,?_⟩) hHeld ?_
           ·intro W hSw
            go_simp
           (try simp only [Act.put]);(try simp only [List.setIfInBounds_toArray]);(try simp only [List.set_cons_succ]);(try simp only [List.set_cons_zero])
           refine wpAnyH_take (i:=12) (v:=(.pointer (some ⟨xb,1,none⟩))) rfl (by kernel_rfl) (by kernel_rfl) (by kernel_rfl) (fun _ _ _ h=>h) (Or.inl ⟨by rfl,?_⟩) hHeld ?_
           ·intro W hSw
            go_simp
           (try simp only [Act.put]);(try simp only [List.setIfInBounds_toArray]);(try simp only [List.set_cons_succ]);(try simp only [List.set_cons_zero])
           refine wpAnyH_ready (rs:=[10,13]) (by kernel_rfl) (by simp) (AllReadyH.cons rfl (fun K hK=>?_) (AllReadyH.cons rfl (fun K hK=>?_) AllReadyH.nil))
           ·go_simp
            refine hK.out _ _ (Two2.set12 hHeld ha9 ha9 _ _ _ _ _ _ _ _ _ _ _ _) (fun hHeld=>?_);clear hK K
            (try simp only [Act.put]);(try simp only [List.setIfInBounds_toArray]);(try simp only [List.set_cons_succ]);(try simp only [List.set_cons_zero])
            refine wpAnyH_ready (rs:=[13]) (by kernel_rfl) (by simp) (AllReadyH.cons rfl (fun K hK=>?_) AllReadyH.nil)
            go_simp
            refine hK.out _ _ (Two2.set hHeld (fun e=>A9.out.2.1 e) (fun e=>A9.out.2.1 e) _) (fun hHeld=>?_);clear hK K
            (try simp only [Act.put]);(try simp only [List.setIfInBounds_toArray]);(try simp only [List.set_cons_succ]);(try simp only [List.set_cons_zero])
            refine wpAnyH_done (by kernel_rfl) ?_ _;refine NoPanic.normal ?_;have HREL:Hid (∃ v' L2',XL xb fb w0.heap.size _ v' (L++L2')∧L2'.map Pc.x=exL fs q σ (l.take (j+1))∧KX xb w1 _∧Below w0.heap.size w0 _):=Lh ⟨_,L2++[outP a _ _ _],by rw [←List.append_assoc];exact P1.out.1,by rw [HTK.out,HEX.out,List.map_append,LW.out];rfl,KW4.out.trans P1.out.2.1,BW4.out.trans P1.out.2.2⟩;clear P1 P2;go_wp2;go_roundw
            case rel =>
             obtain⟨v9,L9,r1,r2,r3,r4⟩:=HREL.out;exact⟨j+1,v9,L9,by omega,by go_num,Lh r1,Lh r2,Lh r3,Lh r4⟩
            case measure=>simp [intOf];omega
           ·go_simp
            refine hK.out _ _ (Two2.set hHeld (fun e=>A9.out.2.1 e) (fun e=>A9.out.2.1 e) _) (fun hHeld=>?_);clear hK K
            (try simp only [Act.put]);(try simp only [List.setIfInBounds_toArray]);(try simp only [List.set_cons_succ]);(try simp only [List.set_cons_zero])
            refine wpAnyH_ready (rs:=[10]) (by kernel_rfl) (by simp) (AllReadyH.cons rfl (fun K hK=>?_) AllReadyH.nil)
            go_simp
            refine hK.out _ _ (Two2.set12 hHeld ha9 ha9 _ _ _ _ _ _ _ _ _ _ _ _) (fun hHeld=>?_);clear hK K
            (try simp only [Act.put]);(try simp only [List.setIfInBounds_toArray]);(try simp only [List.set_cons_succ]);(try simp only [List.set_cons_zero])
            refine wpAnyH_done (by kernel_rfl) ?_ _;refine NoPanic.normal ?_;have HREL:Hid (∃ v' L2',XL xb fb w0.heap.size _ v' (L++L2')∧L2'.map Pc.x=exL fs q σ (l.take (j+1))∧KX xb w1 _∧Below w0.heap.size w0 _):=Lh ⟨_,L2++[outP a _ _ _],by rw [←List.append_assoc];exact P2.out.1,by rw [HTK.out,HEX.out,List.map_append,LW.out];rfl,KW4.out.trans P2.out.2.1,BW4.out.trans P2.out.2.2⟩;clear P1 P2;go_wp2;go_roundw
            case rel =>
             obtain⟨v9,L9,r1,r2,r3,r4⟩:=HREL.out;exact⟨j+1,v9,L9,by omega,by go_num,Lh r1,Lh r2,Lh r3,Lh r4⟩
            case measure=>simp [intOf];omega
         ·go_simp
          (with_reducible refine (HO.out _ ((ba w4 _).drew)).mono ?_)
          rintro x w5 ⟨a7,a10,a11,rfl,h7,h10,h11,hb5⟩;obtain⟨q7,c7,rfl,_⟩:=id h7;obtain⟨q10,c10,rfl,_⟩:=id h10;obtain⟨q11,c11,rfl,_⟩:=id h11;have H7:=Lh h7;have H10:=Lh h10;have H11:=Lh h11;have HB5':=Lh hb5;have HB45:=Lh (Below.then_ ((ba w4 _).drew) hb5);have hz45:=HB45.out.size;have hT5:Two2 w4 wr.heap.size wr.heap.size w5:=⟨HB45.out.block _ hl9,HB45.out.block _ hl9⟩;clear h7 h10 h11 hb5
          (try go_wp2_with fail)
          refine hK.out _ _ hT5 (fun hHeld=>?_);clear hK K
          (try simp only [Act.put]);(try simp only [List.setIfInBounds_toArray]);(try simp only [List.set_cons_succ]);(try simp only [List.set_cons_zero])
          refine wpAnyH_ready (rs:=[3]) (by kernel_rfl) (by simp) (AllReadyH.cons rfl (fun K hK=>?_) AllReadyH.nil)
          ·have x1:(w5).cell? ⟨xb,1,none⟩=some (.slice qv N cv):=(X4.out.bx.stay HB45.out).c 1 _ rfl
           go_simp
           refine hK.out _ _ hHeld (fun hHeld=>?_);clear hK K
           (try simp only [Act.put]);(try simp only [List.setIfInBounds_toArray]);(try simp only [List.set_cons_succ]);(try simp only [List.set_cons_zero])
           clear x1;refine wpAnyH_take (i:=6) (v:=(.int .i64 N)) rfl (by kernel_rfl) (by kernel_rfl) (by kernel_rfl) (fun _ _ _ h=>h) (Or.inl ⟨by rfl,?_⟩) hHeld ?_
           ·intro W hSw
            go_simp
           (try simp only [Act.put]);(try simp only [List.setIfInBounds_toArray]);(try simp only [List.set_cons_succ]);(try simp only [List.set_cons_zero])
           have hW1:Hid (Below w4.heap.size w4 (w5)):=Lh HB45.out;have hW5:Hid (Below w5.heap.size w5 (w5)):=Lh (Below.refl _ _);have hnb:Hid (w5.heap[w4.heap.size]? = some (.cells #[.int .i64 0,.int .i64 0,.int .i64 0,.string ⟨#[]⟩,.slice none 0 0,.string ⟨#[]⟩,.string ⟨#[]⟩,.slice none 0 0,.slice none 0 0,.slice none 0 0,.slice none 0 0,.slice none 0 0] 55)):=Lh ((HB5'.out.block w4.heap.size (by show _<(w4.alloc _).heap.size;rw [World.size_alloc];exact Nat.lt_succ_self _)).trans (heap_alloc_new w4 _));have XR7:=Lh (own_later XR.out hW1.out);have BX7:=Lh (X4.out.bx.stay hW1.out);obtain⟨H1,hH1⟩:∃ H,(w5).heap.size=H:=⟨_,rfl⟩;have HH1:=Lh hH1;have hH4:w4.heap.size≤H1:=(by have:=hW1.out.size;rw [hH1] at this;exact this);clear hH1;refine wpAnyH_ready (rs:=[8]) (by kernel_rfl) (by simp) (AllReadyH.cons rfl (fun K hK=>?_) AllReadyH.nil);refine step_append_lies _ (by rfl) (.tmp 31) (.tmp 35) 22 (by rfl) w0.heap.size 55 i0 (.agg #[.int .i64 0,.int .i64 0,.int .i64 0,.string ⟨#[]⟩,.slice none 0 0,.string ⟨#[]⟩,.string ⟨#[]⟩,.slice none 0 0,.slice none 0 0,.slice none 0 0,.slice none 0 0,.slice none 0 0]) 12 216 Tryz.underlying22 hi iz0 iz1 iz2 rfl (by decide) (.slice qv N cv) N ((L++L2).flatMap pcC) (by rfl) XR7.out ⟨w4.heap.size,0,none⟩ 1 1 [.int .i64 0,.int .i64 0,.int .i64 0,.string ⟨#[]⟩,.slice none 0 0,.string ⟨#[]⟩,.string ⟨#[]⟩,.slice none 0 0,.slice none 0 0,.slice none 0 0,.slice none 0 0,.slice none 0 0] (by rfl) rfl (World.news_of_block (cs:=#[.int .i64 0,.int .i64 0,.int .i64 0,.string ⟨#[]⟩,.slice none 0 0,.string ⟨#[]⟩,.string ⟨#[]⟩,.slice none 0 0,.slice none 0 0,.slice none 0 0,.slice none 0 0,.slice none 0 0]) (hnb.out)) (one_12 _ _ _ _ _ (by simp [Value.oneCell'])) (by omega) (by unfold maxLen;omega) (by omega) (Nat.le_trans BW4.out.size hW1.out.size) H1 HH1.out ?_;intro g cap7 w7 hown hgr hat hlt;obtain⟨hgx,hap⟩:=row_apart X4.out hat hH4;have hz7:=hgr.size;rw [HH1.out] at hz7;refine hK.out _ _ (Two2.grown hHeld (by rw [HH1.out];omega) (by rw [HH1.out];omega) hgr (hap _ A9.out).2 (hap _ A9.out).2) (fun hHeld=>?_);clear hK K
           (try simp only [Act.put]);(try simp only [List.setIfInBounds_toArray]);(try simp only [List.set_cons_succ]);(try simp only [List.set_cons_zero])
           obtain⟨n0,n1,n2,n3,n4,n5,n6,n7,n8,n9,n10,n11,f0,f1,f2,f3,f4',f5',f6,f7,f8,f9,f10,f11⟩:=own_new hown (by rw [flat_len pcC_len,HN.out]);have hat2:(Value.slice qv N cv).ownBlock=some g∨g=(w5).heap.size:=(by rw [HH1.out];exact hat);have PS:=Lh (outP_s (E:=(w4.alloc (.cells #[.int .i64 0,.int .i64 0,.int .i64 0,.string ⟨#[]⟩,.slice none 0 0,.string ⟨#[]⟩,.string ⟨#[]⟩,.slice none 0 0,.slice none 0 0,.slice none 0 0,.slice none 0 0,.slice none 0 0] 55)).drew) X4.out (by show w4.heap.size≤(w4.alloc _).heap.size;rw [World.size_alloc];exact Nat.le_succ _) hW5.out hgr hat2 HNM.out H7.out H10.out H11.out);have hx4:=X4.out.bx.lt;have bx7:w7.cell? ⟨xb,1,none⟩=some (.slice qv N cv):=(World.cell?_of_block (hgr.block xb (by rw [HH1.out];omega) (fun e=>X4.out.ne e.symm))).trans (BX7.out.c 1 _ rfl);have fx7:w7.frozen? ⟨xb,1,none⟩=false:=(World.frozen?_of_block (hgr.block xb (by rw [HH1.out];omega) (fun e=>X4.out.ne e.symm))).trans (BX7.out.f 1);have hxg:xb≠g:=(fun e=>hgx e.symm);have P1:=Lh (X4.out.push (W1:=w5) HN.out hxb BW4.out.size hW1.out hown hgr hat2 (Below.refl _ _) PS.out (OPC.out _ _ _));have P2:=Lh (X4.out.push2 (W1:=w5) HN.out hxb BW4.out.size hW1.out hown hgr hat2 (Below.refl _ _) hgx PS.out (OPC.out _ _ _));have ha9:=(hap _ A9.out).1;clear hown hgr hat hat2 PS;refine wpAnyH_take (i:=9) (v:=(.pointer (some ⟨g,N*12,none⟩))) rfl (by kernel_rfl) (by kernel_rfl) (by kernel_rfl) (fun _ _ _ h=>h) (Or.inl ⟨by rfl,?_⟩) hHeld ?_
           ·intro W hSw
            go_simp
            (intro hh;exfalso;omega)
           (try simp only [Act.put]);(try simp only [List.setIfInBounds_toArray]);(try simp only [List.set_cons_succ]);(try simp only [List.set_cons_zero])
           refine wpAnyH_take (i:=11) (v:=(.pointer (some ⟨xb,0,none⟩))) rfl (by kernel_rfl) (by kernel_rfl) (by kernel_rfl) (fun _ _ _ h=>h) (Or.inl ⟨by rfl,?_⟩) hHeld ?_
           ·intro W hSw
            go_simp
           (try simp only [Act.put]);(try simp only [List.setIfInBounds_toArray]);(try simp only [List.set_cons_succ]);(try simp only [List.set_cons_zero])
           refine wpAnyH_take (i:=12) (v:=(.pointer (some ⟨xb,1,none⟩))) rfl (by kernel_rfl) (by kernel_rfl) (by kernel_rfl) (fun _ _ _ h=>h) (Or.inl ⟨by rfl,?_⟩) hHeld ?_
           ·intro W hSw
            go_simp
           (try simp only [Act.put]);(try simp only [List.setIfInBounds_toArray]);(try simp only [List.set_cons_succ]);(try simp only [List.set_cons_zero])
           refine wpAnyH_ready (rs:=[10,13]) (by kernel_rfl) (by simp) (AllReadyH.cons rfl (fun K hK=>?_) (AllReadyH.cons rfl (fun K hK=>?_) AllReadyH.nil))
           ·go_simp
            refine hK.out _ _ (Two2.set12 hHeld ha9 ha9 _ _ _ _ _ _ _ _ _ _ _ _) (fun hHeld=>?_);clear hK K
            (try simp only [Act.put]);(try simp only [List.setIfInBounds_toArray]);(try simp only [List.set_cons_succ]);(try simp only [List.set_cons_zero])
            refine wpAnyH_ready (rs:=[13]) (by kernel_rfl) (by simp) (AllReadyH.cons rfl (fun K hK=>?_) AllReadyH.nil)
            go_simp
            refine hK.out _ _ (Two2.set hHeld (fun e=>A9.out.2.1 e) (fun e=>A9.out.2.1 e) _) (fun hHeld=>?_);clear hK K
            (try simp only [Act.put]);(try simp only [List.setIfInBounds_toArray]);(try simp only [List.set_cons_succ]);(try simp only [List.set_cons_zero])
            refine wpAnyH_done (by kernel_rfl) ?_ _;refine NoPanic.normal ?_;have HREL:Hid (∃ v' L2',XL xb fb w0.heap.size _ v' (L++L2')∧L2'.map Pc.x=exL fs q σ (l.take (j+1))∧KX xb w1 _∧Below w0.heap.size w0 _):=Lh ⟨_,L2++[outP a _ _ _],by rw [←List.append_assoc];exact P1.out.1,by rw [HTK.out,HEX.out,List.map_append,LW.out];rfl,KW4.out.trans P1.out.2.1,BW4.out.trans P1.out.2.2⟩;clear P1 P2;go_wp2;go_roundw
            case rel =>
             obtain⟨v9,L9,r1,r2,r3,r4⟩:=HREL.out;exact⟨j+1,v9,L9,by omega,by go_num,Lh r1,Lh r2,Lh r3,Lh r4⟩
            case measure=>simp [intOf];omega
           ·go_simp
            refine hK.out _ _ (Two2.set hHeld (fun e=>A9.out.2.1 e) (fun e=>A9.out.2.1 e) _) (fun hHeld=>?_);clear hK K
            (try simp only [Act.put]);(try simp only [List.setIfInBounds_toArray]);(try simp only [List.set_cons_succ]);(try simp only [List.set_cons_zero])
            refine wpAnyH_ready (rs:=[10]) (by kernel_rfl) (by simp) (AllReadyH.cons rfl (fun K hK=>?_) AllReadyH.nil)
            go_simp
            refine hK.out _ _ (Two2.set12 hHeld ha9 ha9 _ _ _ _ _ _ _ _ _ _ _ _) (fun hHeld=>?_);clear hK K
            (try simp only [Act.put]);(try simp only [List.setIfInBounds_toArray]);(try simp only [List.set_cons_succ]);(try simp only [List.set_cons_zero])
            refine wpAnyH_done (by kernel_rfl) ?_ _;refine NoPanic.normal ?_;have HREL:Hid (∃ v' L2',XL xb fb w0.heap.size _ v' (L++L2')∧L2'.map Pc.x=exL fs q σ (l.take (j+1))∧KX xb w1 _∧Below w0.heap.size w0 _):=Lh ⟨_,L2++[outP a _ _ _],by rw [←List.append_assoc];exact P2.out.1,by rw [HTK.out,HEX.out,List.map_append,LW.out];rfl,KW4.out.trans P2.out.2.1,BW4.out.trans P2.out.2.2⟩;clear P1 P2;go_wp2;go_roundw
            case rel =>
             obtain⟨v9,L9,r1,r2,r3,r4⟩:=HREL.out;exact⟨j+1,v9,L9,by omega,by go_num,Lh r1,Lh r2,Lh r3,Lh r4⟩
            case measure=>simp [intOf];omega
   ·have hjK:j=K:=(by omega);have HT:Hid (exL fs q σ (l.take j)=exL fs q σ l):=Lh (by rw [List.take_of_length_le (by rw [HK.out];omega)]);clear hjK;go_wp2;refine bodyPost_ret (results_none rfl _ _ _) rfl ?_;exact FINP.out v' L2 wr XW.out (by rw [LW.out,HT.out]) KW.out BW.out
end ItW
end Go.Proofs.YtpejflgdehioaaaGreatDoor
