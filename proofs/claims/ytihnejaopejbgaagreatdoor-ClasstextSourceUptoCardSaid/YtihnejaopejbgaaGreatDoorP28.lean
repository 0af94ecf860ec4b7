/-
  Laws that the card uses; no conditions beside those that each states (CtItems).
-/
import Derived.Test.YtihnejaopejbgaaGreatDoorP26
set_option maxRecDepth 100000
set_option maxHeartbeats 16000000
namespace Go.Proofs.YtihnejaopejbgaaGreatDoor
namespace CtW
open Go Go.RowKit Go.Shelf NumM LexW ExW ItW LexM ExM EtM EtW ItM CtM
theorem writer1 (w:World):Calls Tryz.prog 47 #[.int .i64 1] w fun e w'=>e=.returned (.func (.func 81) #[] #[])∧Below w.heap.size w w':=by
 have b1:=ba w (.cells #[.nilFunc,.func (.func 81) #[] #[],.func (.func 82) #[] #[],.func (.func 83) #[] #[],.func (.func 84) #[] #[],.func (.func 85) #[] #[],.func (.func 86) #[] #[]] 112)
 go_enter Tryz.func47,Tryz.ntmps47
 go_wp2;go_ret;exact⟨rfl,b1⟩
theorem writer2 (w:World):Calls Tryz.prog 47 #[.int .i64 2] w fun e w'=>e=.returned (.func (.func 82) #[] #[])∧Below w.heap.size w w':=by
 have b1:=ba w (.cells #[.nilFunc,.func (.func 81) #[] #[],.func (.func 82) #[] #[],.func (.func 83) #[] #[],.func (.func 84) #[] #[],.func (.func 85) #[] #[],.func (.func 86) #[] #[]] 112)
 go_enter Tryz.func47,Tryz.ntmps47
 go_wp2;go_ret;exact⟨rfl,b1⟩
theorem writer3 (w:World):Calls Tryz.prog 47 #[.int .i64 3] w fun e w'=>e=.returned (.func (.func 83) #[] #[])∧Below w.heap.size w w':=by
 have b1:=ba w (.cells #[.nilFunc,.func (.func 81) #[] #[],.func (.func 82) #[] #[],.func (.func 83) #[] #[],.func (.func 84) #[] #[],.func (.func 85) #[] #[],.func (.func 86) #[] #[]] 112)
 go_enter Tryz.func47,Tryz.ntmps47
 go_wp2;go_ret;exact⟨rfl,b1⟩
theorem writer4 (w:World):Calls Tryz.prog 47 #[.int .i64 4] w fun e w'=>e=.returned (.func (.func 84) #[] #[])∧Below w.heap.size w w':=by
 have b1:=ba w (.cells #[.nilFunc,.func (.func 81) #[] #[],.func (.func 82) #[] #[],.func (.func 83) #[] #[],.func (.func 84) #[] #[],.func (.func 85) #[] #[],.func (.func 86) #[] #[]] 112)
 go_enter Tryz.func47,Tryz.ntmps47
 go_wp2;go_ret;exact⟨rfl,b1⟩
theorem writer5 (w:World):Calls Tryz.prog 47 #[.int .i64 5] w fun e w'=>e=.returned (.func (.func 85) #[] #[])∧Below w.heap.size w w':=by
 have b1:=ba w (.cells #[.nilFunc,.func (.func 81) #[] #[],.func (.func 82) #[] #[],.func (.func 83) #[] #[],.func (.func 84) #[] #[],.func (.func 85) #[] #[],.func (.func 86) #[] #[]] 112)
 go_enter Tryz.func47,Tryz.ntmps47
 go_wp2;go_ret;exact⟨rfl,b1⟩
theorem writer6 (w:World):Calls Tryz.prog 47 #[.int .i64 6] w fun e w'=>e=.returned (.func (.func 86) #[] #[])∧Below w.heap.size w w':=by
 have b1:=ba w (.cells #[.nilFunc,.func (.func 81) #[] #[],.func (.func 82) #[] #[],.func (.func 83) #[] #[],.func (.func 84) #[] #[],.func (.func 85) #[] #[],.func (.func 86) #[] #[]] 112)
 go_enter Tryz.func47,Tryz.ntmps47
 go_wp2;go_ret;exact⟨rfl,b1⟩
def OneC (B pb k:Nat) (t':List UInt8) (x:It) (v:Value) (W:World):Prop :=
 (x.kd=1∧Calls Tryz.prog 81 #[.pointer (some ⟨pb,0,none⟩),v,.int .i64 k] W (tPg B pb t' (.tuple #[]) W)) ∨
 (x.kd=2∧Calls Tryz.prog 82 #[.pointer (some ⟨pb,0,none⟩),v,.int .i64 k] W (tPg B pb t' (.tuple #[]) W)) ∨
 (x.kd=3∧Calls Tryz.prog 83 #[.pointer (some ⟨pb,0,none⟩),v,.int .i64 k] W (tPg B pb t' (.tuple #[]) W)) ∨
 (x.kd=4∧Calls Tryz.prog 84 #[.pointer (some ⟨pb,0,none⟩),v,.int .i64 k] W (tPg B pb t' (.tuple #[]) W)) ∨
 (x.kd=5∧Calls Tryz.prog 85 #[.pointer (some ⟨pb,0,none⟩),v,.int .i64 k] W (tPg B pb t' (.tuple #[]) W)) ∨
 (x.kd=6∧Calls Tryz.prog 86 #[.pointer (some ⟨pb,0,none⟩),v,.int .i64 k] W (tPg B pb t' (.tuple #[]) W))
theorem one_any (w0:World) (ht:TabE w0) (x:It) (hv:VI x) (hr:RsI x) (hI:ItC w0 x.it) (hJ:ItC w0 x.el) (B pb k:Nat) (t:List UInt8) (W:World) (st:St w0 B pb t W) (hk:k+isz x≤100) (hl:t.length+(txL (liI k x)).length≤140737488000000)
  {p4 p7 p8 p9 p10 p11:Option Addr} {k4 k7 k8 k9 k10 k11:Nat} (h:IV w0.heap.size w0 (.slice p4 x.e.args.length k4) (.slice p7 x.ws.length k7) (.slice p8 x.it.length k8) (.slice p9 x.el.length k9) (.slice p10 x.bf.length k10) (.slice p11 x.af.length k11) x) :
  OneC B pb k (t++txL (liI k x)) x (iv x.kd x.e.op x.e.n x.e.nm (.slice p4 x.e.args.length k4) x.nm x.ix (.slice p7 x.ws.length k7) (.slice p8 x.it.length k8) (.slice p9 x.el.length k9) (.slice p10 x.bf.length k10) (.slice p11 x.af.length k11)) W:=by
 rw [vI_eq] at hv;rw [rsI_eq] at hr;obtain⟨⟨d,hd⟩,v1,v2⟩:=hv;obtain⟨⟨r1,r2,r3,r4⟩,rI,rJ⟩:=hr;rw [isz_eq] at hk;have hvld:=flt_vld hd;have e1:∀ y:List UInt8,txL [y]=y++[10]:=(fun y=>by rw [txL_cons,txL_nil]);have hfm:=fm_of hd;unfold OneC;cases hfm with
 | hard e he =>
  left;have E:txL (liI k (.mk 1 e e0 e0 [] [] [] [] []))=bl k++(prn e++[59,10]):=(by rw [liI_eq];show txL [bl k++(prn e++[59])]=_;rw [e1];simp);rw [E] at hl ⊢;exact⟨rfl,hard_any w0 B pb k t W st (by omega) _ _ _ _ _ _ _ _ _ _ _ _ _ _ _ _ _ _ _ _ _ _ _ _ e h.ex (hvld (show (1:Int)≠3 by decide) (show (1:Int)≠6 by decide) (show (1:Int)≠5 by decide)) r1 ht hl⟩
 | soft e he =>
  right;left;have E:txL (liI k (.mk 2 e e0 e0 [] [] [] [] []))=bl k++(softW++32::(prn e++[59,10])):=(by rw [liI_eq];show txL [bl k++(softW++32::(prn e++[59]))]=_;rw [e1];simp);rw [E] at hl ⊢;exact⟨rfl,soft_any w0 B pb k t W st (by omega) _ _ _ _ _ _ _ _ _ _ _ _ _ _ _ _ _ _ _ _ _ _ _ _ e h.ex (hvld (show (2:Int)≠3 by decide) (show (2:Int)≠6 by decide) (show (2:Int)≠5 by decide)) r1 ht hl⟩
 | dist nm ws h1 h2 h3 =>
  right;right;left;have E:txL (liI k (.mk 3 zE nm e0 ws [] [] [] []))=bl k++(distW++32::(nmT nm++32::123::32::(wtsT ws++32::125::59::[10]))):=(by rw [liI_eq];show txL [bl k++(distW++32::(nmT nm++32::123::32::(wtsT ws++32::125::59::[])))]=_;rw [e1];simp);rw [E] at hl ⊢;exact⟨rfl,dist_any w0 B pb k t W st (by omega) _ _ _ _ _ _ _ _ _ _ _ _ _ _ _ _ _ _ _ _ _ _ _ _ ws h.wt (fun w hw=>by have b:=wrong_ok (h3 w hw);exact⟨⟨b.1,b.2.1⟩,⟨b.2.2.1,b.2.2.2.1⟩,⟨b.2.2.2.2.1,b.2.2.2.2.2⟩⟩) r2 ht hl⟩
 | cond e it el he =>
  right;right;right;left;simp only [It.it,It.el,It.e] at *
  by_cases hz:el=[]
  ·subst hz;have E:txL (liI k (.mk 4 e e0 e0 [] it [] [] []))=bl k++(ifW++32::40::(prn e++[41,32,123,10]))++(txL (liL (k+1) it)++(bl k++[125,10])):=by
    rw [liI_eq];show txL ((bl k++(ifW++32::40::(prn e++[41,32,123])))::(liL (k+1) it++([]++[bl k++[125]])))=_;rw [txL_cons,txL_app,List.nil_append,e1];simp
   rw [E] at hl ⊢;exact⟨rfl,choice0_any w0 B pb k t W st (by omega) _ _ _ _ _ _ _ _ _ _ _ _ _ _ _ _ _ _ _ _ _ _ _ e it h.ex (hvld (show (4:Int)≠3 by decide) (show (4:Int)≠6 by decide) (show (4:Int)≠5 by decide)) r1 ht hI h.its (by omega) v1 rI hl⟩
  ·have E:txL (liI k (.mk 4 e e0 e0 [] it el [] []))=bl k++(ifW++32::40::(prn e++[41,32,123,10]))++(txL (liL (k+1) it)++(bl k++(elsL++[10])++(txL (liL (k+1) el)++(bl k++[125,10])))):=by
    rw [liI_eq];show txL ((bl k++(ifW++32::40::(prn e++[41,32,123])))::(liL (k+1) it++((if el.isEmpty=true then [] else (bl k++elsL)::liL (k+1) el)++[bl k++[125]])))=_;rw [if_neg (by simpa using hz),txL_cons,txL_app,List.cons_append,txL_cons,txL_app,e1];simp
   rw [E] at hl ⊢;exact⟨rfl,choice1_any w0 B pb k t W st (by omega) _ _ _ _ _ _ _ _ _ _ _ _ _ _ _ _ _ _ _ _ _ _ _ _ e it el h.ex (hvld (show (4:Int)≠3 by decide) (show (4:Int)≠6 by decide) (show (4:Int)≠5 by decide)) r1 ht hI h.its (by omega) v1 rI hJ h.els (by omega) v2 rJ (List.length_pos_iff.2 hz) hl⟩
 | each nm ix it h1 h2 =>
  right;right;right;right;left;have E:txL (liI k (.mk 5 zE nm ix [] it [] [] []))=bl k++(eachW++32::(nmT ix++32::(inW++32::(nmT nm++32::123::[10]))))++(txL (liL (k+1) it)++(bl k++[125,10])):=by
   rw [liI_eq];show txL ((bl k++(eachW++32::(nmT ix++32::(inW++32::(nmT nm++32::123::[])))))::(liL (k+1) it++[bl k++[125]]))=_;rw [txL_cons,txL_app,e1];simp
  rw [E] at hl ⊢;simp only [It.it,It.el] at *
  exact⟨rfl,each_any w0 B pb k t W st (by omega) _ _ _ _ _ _ _ _ _ _ _ _ _ _ _ _ _ _ _ _ _ _ _ _ it hI h.its (by omega) v1 rI hl⟩
 | solve bf af h1 h2 h3 h4 =>
  right;right;right;right;right;have E:txL (liI k (.mk 6 zE e0 e0 [] [] [] bf af))=bl k++(solveW++32::(CtM.joinT (bf.map nmT)++32::(beforeW++32::(CtM.joinT (af.map nmT)++59::[10])))):=by
   rw [liI_eq];show txL [bl k++(solveW++32::(CtM.joinT (bf.map nmT)++32::(beforeW++32::(CtM.joinT (af.map nmT)++59::[]))))]=_;rw [e1];simp
  rw [E] at hl ⊢;exact⟨rfl,solve_any w0 B pb k t W st (by omega) _ _ _ _ _ _ _ _ _ _ _ _ _ _ _ _ _ _ _ _ _ _ bf af h.bfs h.afs h1 h2 hl⟩
theorem li_take {k j:Nat} {l:List It} {x:It} (h:l[j]? = some x):txL (liL k (l.take (j+1)))=txL (liL k (l.take j))++txL (liI k x):=by
 obtain⟨hj,he⟩:=List.getElem?_eq_some_iff.1 h;rw [List.take_succ_eq_append_getElem hj,liL_app,txL_app,he,liL_cons,liL_nil,List.append_nil]
theorem li_take_le (k j:Nat) (l:List It):(txL (liL k (l.take j))).length≤(txL (liL k l)).length:=by
 have e:l=l.take j++l.drop j:=(List.take_append_drop j l).symm
 conv=>rhs;rw [e,liL_app,txL_app]
 rw [List.length_append];omega
theorem vL_mem {l:List It} (h:VL l):∀ x∈l,VI x:=by
 induction l with
 | nil=>intro x hx;cases hx
 | cons a r ih =>
  rw [vL_cons] at h;intro x hx;rcases List.mem_cons.1 hx with rfl | hx
  ·exact h.1
  ·exact ih h.2 x hx
theorem items_any (w0:World) (ht:TabE w0) (l:List It):ItC w0 l:=by
 induction l using its_ind with
 | h l ih =>
  intro v B pb k t W st hx hk hl hv hr;obtain⟨p,cap,V,rfl,hR⟩:=hx.form;have HR:=Lh hR;have HIH:=Lh ih;have HV:=Lh (vL_mem hv);have HRS:=Lh (rsL_mem.1 hr);have HL:=Lh hl;have HST:=Lh st;have HT:=Lh ht;have HKS:=Lh hk;have hl0:=hR.hl;obtain⟨K,hK⟩:∃ K,l.length=K:=⟨_,rfl⟩;have HK:=Lh hK;rw [hK] at hl0 ⊢;have HP0:Hid (Pg B pb (t++txL (liL k (l.take 0))) W):=Lh (by rw [List.take_zero,liL_nil,txL_nil,List.append_nil];exact st.pg);have HK0:=Lh (Kp.refl B pb W);have hk47:K≤140737488351232:=(by omega);clear hx hR ih hv hr hl ht hk hK st hl0
  go_enter Tryz.func28,Tryz.ntmps28
  go_wp2;go_loopw [11] (fun i wr=>∃ (j:Nat),j≤K∧i=.int .i64 j∧Hid (Pg B pb (t++txL (liL k (l.take j))) wr)∧Hid (Kp B pb W wr)) (fun i _=>K - (intOf i).toNat)
  case atStart=>exact⟨0,Nat.zero_le _,rfl,HP0,HK0⟩
  case round =>
   obtain⟨j,hj,rfl,PW,KW⟩:=hrel;by_cases hlt:j<K
   ·obtain⟨x,hxj⟩:∃ x,l[j]? = some x:=⟨_,List.getElem?_eq_getElem (by rw [HK.out];exact hlt)⟩;have hmem:=List.mem_of_getElem? hxj;obtain⟨b,off,rfl,hb,hcell⟩:=HR.out.hp (by rw [HK.out];omega);have hva:=HR.out.hv j x hxj;have hc:=hcell j x hxj;obtain⟨p4,k4,p7,k7,p8,k8,p9,k9,p10,k10,p11,k11,e4,e7,e8,e9,e10,e11⟩:=hva.slices;rw [e4,e7,e8,e9,e10,e11] at hva;have SW:St w0 B pb (t++txL (liL k (l.take j))) wr:=(HST.out.next PW.out KW.out);have TK:=li_take (k:=k) hxj;have hle:=li_take_le k (j+1) l;have hH:=HL.out;rw [TK,List.length_append] at hle;have hks:=HKS.out;have hisz:=isz_mem hmem;have QC:Hid (∀ W2,St w0 B pb (t++txL (liL k (l.take j))) W2→OneC B pb k (t++txL (liL k (l.take (j+1)))) x (iv x.kd x.e.op x.e.n x.e.nm (.slice p4 x.e.args.length k4) x.nm x.ix (.slice p7 x.ws.length k7) (.slice p8 x.it.length k8) (.slice p9 x.el.length k9) (.slice p10 x.bf.length k10) (.slice p11 x.af.length k11)) W2):=Lh fun W2 h2=>by
     have h3:=one_any w0 HT.out x (HV.out x hmem) (HRS.out x hmem) (HIH.out x hmem).1 (HIH.out x hmem).2 B pb k _ W2 h2 (by omega) (by rw [List.length_append];omega) hva;rw [List.append_assoc,←TK] at h3;exact h3
    obtain⟨g0,g1,g2,g3,g4,g5,g6,g7,g8,g9,g10,g11⟩:=hc.kept (w':=wr) (low_cells SW.low b · hb);rw [e4] at g4;rw [e7] at g7;rw [e8] at g8;rw [e9] at g9;rw [e10] at g10;rw [e11] at g11;clear hcell hva hc e4 e7 e8 e9 e10 e11 hmem TK hle hH hks hisz hxj;have QX:=QC.out;unfold OneC at QX;obtain⟨T1,hT1⟩:∃ y,t++txL (liL k (l.take j))=y:=⟨_,rfl⟩;obtain⟨T2,hT2⟩:∃ y,t++txL (liL k (l.take (j+1)))=y:=⟨_,rfl⟩;have HT2:=Lh hT2;rw [hT1] at QX SW;rw [hT2] at QX;have QY:=Lh QX;have HSW:=Lh SW;clear QC QX SW hT1 hT2 PW;generalize x.e.args.length=n4 at *
    generalize x.ws.length=n7 at *
    generalize x.it.length=n8 at *
    generalize x.el.length=n9 at *
    generalize x.bf.length=n10 at *
    generalize x.af.length=n11 at *
    generalize x.e.op=xo at *
    generalize x.e.nm=xs at *
    generalize x.e.n=xn at *
    generalize x.nm=nm at *
    generalize x.ix=ix at *
    generalize x.kd=kd at *
    have F1:Bx (wr.alloc (.cells #[.int .i64 kd,.int .i64 xo,.int .i64 xn,.string xs,.slice p4 n4 k4,.string nm,.string ix,.slice p7 n7 k7,.slice p8 n8 k8,.slice p9 n9 k9,.slice p10 n10 k10,.slice p11 n11 k11] 53)) wr.heap.size 53 [.int .i64 kd,.int .i64 xo,.int .i64 xn,.string xs,.slice p4 n4 k4,.string nm,.string ix,.slice p7 n7 k7,.slice p8 n8 k8,.slice p9 n9 k9,.slice p10 n10 k10,.slice p11 n11 k11]:=Bx.new _ _ _;have S1:=HSW.out.stay (ba wr (.cells #[.int .i64 kd,.int .i64 xo,.int .i64 xn,.string xs,.slice p4 n4 k4,.string nm,.string ix,.slice p7 n7 k7,.slice p8 n8 k8,.slice p9 n9 k9,.slice p10 n10 k10,.slice p11 n11 k11] 53));have K1:=(Kp.refl B pb wr).below HSW.out.hB (ba wr (.cells #[.int .i64 kd,.int .i64 xo,.int .i64 xn,.string xs,.slice p4 n4 k4,.string nm,.string ix,.slice p7 n7 k7,.slice p8 n8 k8,.slice p9 n9 k9,.slice p10 n10 k10,.slice p11 n11 k11] 53));obtain⟨W1,hW1⟩:∃ W1,wr.alloc (.cells #[.int .i64 kd,.int .i64 xo,.int .i64 xn,.string xs,.slice p4 n4 k4,.string nm,.string ix,.slice p7 n7 k7,.slice p8 n8 k8,.slice p9 n9 k9,.slice p10 n10 k10,.slice p11 n11 k11] 53)=W1:=⟨_,rfl⟩;rw [hW1] at F1 S1 K1;have HF:=Lh F1;have HS:=Lh S1;have HK1:=Lh K1;have hlt1:=F1.blk.lt;have c0:=F1.blk.c 0 _ rfl;clear F1 S1 K1;rcases QY.out W1 HS.out with ⟨hkd,_⟩ | ⟨hkd,_⟩ | ⟨hkd,_⟩ | ⟨hkd,_⟩ | ⟨hkd,_⟩ | ⟨hkd,_⟩
    ·subst hkd;have QZ:Hid (∀ W2,St w0 B pb T1 W2→Calls Tryz.prog 81 #[.pointer (some ⟨pb,0,none⟩),iv 1 xo xn xs (.slice p4 n4 k4) nm ix (.slice p7 n7 k7) (.slice p8 n8 k8) (.slice p9 n9 k9) (.slice p10 n10 k10) (.slice p11 n11 k11),.int .i64 k] W2 (tPg B pb T2 (.tuple #[]) W2)):=Lh fun W2 h2=>by
      rcases QY.out W2 h2 with ⟨h,q⟩ | ⟨h,q⟩ | ⟨h,q⟩ | ⟨h,q⟩ | ⟨h,q⟩ | ⟨h,q⟩<;>first | exact q | exact absurd h (by decide)
     clear QY;go_wp2_with (first
      |(go_at_call 47;((with_reducible refine (writer1 _).mono ?_);rintro e w2 ⟨rfl,hb⟩;have S2:=Lh (HS.out.stay hb);have K2:=Lh (HK1.out.below HS.out.hB hb);clear c0;have X:=HF.out.blk.stay hb;have c0:=X.c 0 _ rfl;have c1:=X.c 1 _ rfl;have c2:=X.c 2 _ rfl;have c3:=X.c 3 _ rfl;have c4:=X.c 4 _ rfl;have c5:=X.c 5 _ rfl;have c6:=X.c 6 _ rfl;have c7:=X.c 7 _ rfl;have c8:=X.c 8 _ rfl;have c9:=X.c 9 _ rfl;have c10:=X.c 10 _ rfl;have c11:=X.c 11 _ rfl;clear X hb))
      |(go_at_call 81;((with_reducible refine (QZ.out _ S2.out).mono ?_);rintro e w3 ⟨rfl,hp,hk3⟩;have HP3:=Lh hp;have HK3:=Lh (KW.out.trans (K2.out.trans hk3));clear hp hk3 c0 c1 c2 c3 c4 c5 c6 c7 c8 c9 c10 c11)))
     go_roundw
     case rel=>exact⟨j+1,by omega,by go_num,by rw [←HT2.out] at HP3;exact HP3,HK3⟩
     case measure=>simp [intOf];omega
    ·subst hkd;have QZ:Hid (∀ W2,St w0 B pb T1 W2→Calls Tryz.prog 82 #[.pointer (some ⟨pb,0,none⟩),iv 2 xo xn xs (.slice p4 n4 k4) nm ix (.slice p7 n7 k7) (.slice p8 n8 k8) (.slice p9 n9 k9) (.slice p10 n10 k10) (.slice p11 n11 k11),.int .i64 k] W2 (tPg B pb T2 (.tuple #[]) W2)):=Lh fun W2 h2=>by
      rcases QY.out W2 h2 with ⟨h,q⟩ | ⟨h,q⟩ | ⟨h,q⟩ | ⟨h,q⟩ | ⟨h,q⟩ | ⟨h,q⟩<;>first | exact q | exact absurd h (by decide)
     clear QY;go_wp2_with (first
      |(go_at_call 47;((with_reducible refine (writer2 _).mono ?_);rintro e w2 ⟨rfl,hb⟩;have S2:=Lh (HS.out.stay hb);have K2:=Lh (HK1.out.below HS.out.hB hb);clear c0;have X:=HF.out.blk.stay hb;have c0:=X.c 0 _ rfl;have c1:=X.c 1 _ rfl;have c2:=X.c 2 _ rfl;have c3:=X.c 3 _ rfl;have c4:=X.c 4 _ rfl;have c5:=X.c 5 _ rfl;have c6:=X.c 6 _ rfl;have c7:=X.c 7 _ rfl;have c8:=X.c 8 _ rfl;have c9:=X.c 9 _ rfl;have c10:=X.c 10 _ rfl;have c11:=X.c 11 _ rfl;clear X hb))
      |(go_at_call 82;((with_reducible refine (QZ.out _ S2.out).mono ?_);rintro e w3 ⟨rfl,hp,hk3⟩;have HP3:=Lh hp;have HK3:=Lh (KW.out.trans (K2.out.trans hk3));clear hp hk3 c0 c1 c2 c3 c4 c5 c6 c7 c8 c9 c10 c11)))
     go_roundw
     case rel=>exact⟨j+1,by omega,by go_num,by rw [←HT2.out] at HP3;exact HP3,HK3⟩
     case measure=>simp [intOf];omega
    ·subst hkd;have QZ:Hid (∀ W2,St w0 B pb T1 W2→Calls Tryz.prog 83 #[.pointer (some ⟨pb,0,none⟩),iv 3 xo xn xs (.slice p4 n4 k4) nm ix (.slice p7 n7 k7) (.slice p8 n8 k8) (.slice p9 n9 k9) (.slice p10 n10 k10) (.slice p11 n11 k11),.int .i64 k] W2 (tPg B pb T2 (.tuple #[]) W2)):=Lh fun W2 h2=>by
      rcases QY.out W2 h2 with ⟨h,q⟩ | ⟨h,q⟩ | ⟨h,q⟩ | ⟨h,q⟩ | ⟨h,q⟩ | ⟨h,q⟩<;>first | exact q | exact absurd h (by decide)
     clear QY;go_wp2_with (first
      |(go_at_call 47;((with_reducible refine (writer3 _).mono ?_);rintro e w2 ⟨rfl,hb⟩;have S2:=Lh (HS.out.stay hb);have K2:=Lh (HK1.out.below HS.out.hB hb);clear c0;have X:=HF.out.blk.stay hb;have c0:=X.c 0 _ rfl;have c1:=X.c 1 _ rfl;have c2:=X.c 2 _ rfl;have c3:=X.c 3 _ rfl;have c4:=X.c 4 _ rfl;have c5:=X.c 5 _ rfl;have c6:=X.c 6 _ rfl;have c7:=X.c 7 _ rfl;have c8:=X.c 8 _ rfl;have c9:=X.c 9 _ rfl;have c10:=X.c 10 _ rfl;have c11:=X.c 11 _ rfl;clear X hb))
      |(go_at_call 83;((with_reducible refine (QZ.out _ S2.out).mono ?_);rintro e w3 ⟨rfl,hp,hk3⟩;have HP3:=Lh hp;have HK3:=Lh (KW.out.trans (K2.out.trans hk3));clear hp hk3 c0 c1 c2 c3 c4 c5 c6 c7 c8 c9 c10 c11)))
     go_roundw
     case rel=>exact⟨j+1,by omega,by go_num,by rw [←HT2.out] at HP3;exact HP3,HK3⟩
     case measure=>simp [intOf];omega
    ·subst hkd;have QZ:Hid (∀ W2,St w0 B pb T1 W2→Calls Tryz.prog 84 #[.pointer (some ⟨pb,0,none⟩),iv 4 xo xn xs (.slice p4 n4 k4) nm ix (.slice p7 n7 k7) (.slice p8 n8 k8) (.slice p9 n9 k9) (.slice p10 n10 k10) (.slice p11 n11 k11),.int .i64 k] W2 (tPg B pb T2 (.tuple #[]) W2)):=Lh fun W2 h2=>by
      rcases QY.out W2 h2 with ⟨h,q⟩ | ⟨h,q⟩ | ⟨h,q⟩ | ⟨h,q⟩ | ⟨h,q⟩ | ⟨h,q⟩<;>first | exact q | exact absurd h (by decide)
     clear QY;go_wp2_with (first
      |(go_at_call 47;((with_reducible refine (writer4 _).mono ?_);rintro e w2 ⟨rfl,hb⟩;have S2:=Lh (HS.out.stay hb);have K2:=Lh (HK1.out.below HS.out.hB hb);clear c0;have X:=HF.out.blk.stay hb;have c0:=X.c 0 _ rfl;have c1:=X.c 1 _ rfl;have c2:=X.c 2 _ rfl;have c3:=X.c 3 _ rfl;have c4:=X.c 4 _ rfl;have c5:=X.c 5 _ rfl;have c6:=X.c 6 _ rfl;have c7:=X.c 7 _ rfl;have c8:=X.c 8 _ rfl;have c9:=X.c 9 _ rfl;have c10:=X.c 10 _ rfl;have c11:=X.c 11 _ rfl;clear X hb))
      |(go_at_call 84;((with_reducible refine (QZ.out _ S2.out).mono ?_);rintro e w3 ⟨rfl,hp,hk3⟩;have HP3:=Lh hp;have HK3:=Lh (KW.out.trans (K2.out.trans hk3));clear hp hk3 c0 c1 c2 c3 c4 c5 c6 c7 c8 c9 c10 c11)))
     go_roundw
     case rel=>exact⟨j+1,by omega,by go_num,by rw [←HT2.out] at HP3;exact HP3,HK3⟩
     case measure=>simp [intOf];omega
    ·subst hkd;have QZ:Hid (∀ W2,St w0 B pb T1 W2→Calls Tryz.prog 85 #[.pointer (some ⟨pb,0,none⟩),iv 5 xo xn xs (.slice p4 n4 k4) nm ix (.slice p7 n7 k7) (.slice p8 n8 k8) (.slice p9 n9 k9) (.slice p10 n10 k10) (.slice p11 n11 k11),.int .i64 k] W2 (tPg B pb T2 (.tuple #[]) W2)):=Lh fun W2 h2=>by
      rcases QY.out W2 h2 with ⟨h,q⟩ | ⟨h,q⟩ | ⟨h,q⟩ | ⟨h,q⟩ | ⟨h,q⟩ | ⟨h,q⟩<;>first | exact q | exact absurd h (by decide)
     clear QY;go_wp2_with (first
      |(go_at_call 47;((with_reducible refine (writer5 _).mono ?_);rintro e w2 ⟨rfl,hb⟩;have S2:=Lh (HS.out.stay hb);have K2:=Lh (HK1.out.below HS.out.hB hb);clear c0;have X:=HF.out.blk.stay hb;have c0:=X.c 0 _ rfl;have c1:=X.c 1 _ rfl;have c2:=X.c 2 _ rfl;have c3:=X.c 3 _ rfl;have c4:=X.c 4 _ rfl;have c5:=X.c 5 _ rfl;have c6:=X.c 6 _ rfl;have c7:=X.c 7 _ rfl;have c8:=X.c 8 _ rfl;have c9:=X.c 9 _ rfl;have c10:=X.c 10 _ rfl;have c11:=X.c 11 _ rfl;clear X hb))
      |(go_at_call 85;((with_reducible refine (QZ.out _ S2.out).mono ?_);rintro e w3 ⟨rfl,hp,hk3⟩;have HP3:=Lh hp;have HK3:=Lh (KW.out.trans (K2.out.trans hk3));clear hp hk3 c0 c1 c2 c3 c4 c5 c6 c7 c8 c9 c10 c11)))
     go_roundw
     case rel=>exact⟨j+1,by omega,by go_num,by rw [←HT2.out] at HP3;exact HP3,HK3⟩
     case measure=>simp [intOf];omega
    ·subst hkd;have QZ:Hid (∀ W2,St w0 B pb T1 W2→Calls Tryz.prog 86 #[.pointer (some ⟨pb,0,none⟩),iv 6 xo xn xs (.slice p4 n4 k4) nm ix (.slice p7 n7 k7) (.slice p8 n8 k8) (.slice p9 n9 k9) (.slice p10 n10 k10) (.slice p11 n11 k11),.int .i64 k] W2 (tPg B pb T2 (.tuple #[]) W2)):=Lh fun W2 h2=>by
      rcases QY.out W2 h2 with ⟨h,q⟩ | ⟨h,q⟩ | ⟨h,q⟩ | ⟨h,q⟩ | ⟨h,q⟩ | ⟨h,q⟩<;>first | exact q | exact absurd h (by decide)
     clear QY;go_wp2_with (first
      |(go_at_call 47;((with_reducible refine (writer6 _).mono ?_);rintro e w2 ⟨rfl,hb⟩;have S2:=Lh (HS.out.stay hb);have K2:=Lh (HK1.out.below HS.out.hB hb);clear c0;have X:=HF.out.blk.stay hb;have c0:=X.c 0 _ rfl;have c1:=X.c 1 _ rfl;have c2:=X.c 2 _ rfl;have c3:=X.c 3 _ rfl;have c4:=X.c 4 _ rfl;have c5:=X.c 5 _ rfl;have c6:=X.c 6 _ rfl;have c7:=X.c 7 _ rfl;have c8:=X.c 8 _ rfl;have c9:=X.c 9 _ rfl;have c10:=X.c 10 _ rfl;have c11:=X.c 11 _ rfl;clear X hb))
      |(go_at_call 86;((with_reducible refine (QZ.out _ S2.out).mono ?_);rintro e w3 ⟨rfl,hp,hk3⟩;have HP3:=Lh hp;have HK3:=Lh (KW.out.trans (K2.out.trans hk3));clear hp hk3 c0 c1 c2 c3 c4 c5 c6 c7 c8 c9 c10 c11)))
     go_roundw
     case rel=>exact⟨j+1,by omega,by go_num,by rw [←HT2.out] at HP3;exact HP3,HK3⟩
     case measure=>simp [intOf];omega
   ·obtain rfl:j=K:=(by omega);have PF:Hid (Pg B pb (t++txL (liL k l)) wr):=Lh (by have:=PW.out;rw [List.take_of_length_le (by rw [HK.out];exact Nat.le_refl _)] at this;exact this);go_wp2
    go_end0
    exact⟨rfl,PF.out,KW.out⟩
end CtW
end Go.Proofs.YtihnejaopejbgaaGreatDoor
