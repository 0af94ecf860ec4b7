/-
  Laws that the card uses; no conditions beside those that each states (ExSameR).
-/
import Derived.Test.YtpejflgdehioaaaGreatDoorU05
set_option maxRecDepth 100000
set_option maxHeartbeats 16000000
namespace Go.Proofs.YtpejflgdehioaaaGreatDoor
namespace ExW
open Go Go.RowKit NumM LexW LexM ExM
open Classical in
noncomputable def eqB (a b:Ex):Bool:=decide (a=b)
open Classical in
noncomputable def eqL (a b:List Ex):Bool:=decide (a=b)
theorem eqB_mk (o n:Int) (s:ByteArray) (ks:List Ex) (o' n':Int) (s':ByteArray) (ks':List Ex):eqB (.mk o n s ks) (.mk o' n' s' ks')=((o == o')&&((n == n')&&((s.toList == s'.toList)&&eqL ks ks'))):=by
 unfold eqB eqL;rw [Bool.eq_iff_iff,Lib.toList_data,Lib.toList_data];simp only [decide_eq_true_eq,Bool.and_eq_true,beq_iff_eq,Ex.mk.injEq];constructor
 ·rintro ⟨rfl,rfl,rfl,rfl⟩;exact⟨rfl,rfl,rfl,rfl⟩
 ·rintro ⟨h1,h2,h3,h4⟩;exact⟨h1,h2,bs_inj h3,h4⟩
theorem eqL_len {a b:List Ex} (h:a.length≠b.length):eqL a b=false:=by
 unfold eqL;rw [decide_eq_false_iff_not];rintro rfl;exact h rfl
theorem eqL_no {a b:List Ex} {i:Nat} {x y:Ex} (h:a[i]? = some x) (g:b[i]? = some y) (k:eqB x y=false):eqL a b=false:=by
 unfold eqL eqB at *;rw [decide_eq_false_iff_not] at *;rintro rfl;rw [h] at g;exact k (Option.some.inj g)
open Classical in
theorem eqL_yes {a b:List Ex} (hl:a.length=b.length) (h:∀ (i:Nat) (x y:Ex),i<a.length→a[i]? = some x→b[i]? = some y→eqB x y=true):eqL a b=true:=by
 unfold eqL;refine decide_eq_true ?_;apply List.ext_getElem hl;intro i h1 h2;have:=h i _ _ h1 (List.getElem?_eq_getElem h1) (List.getElem?_eq_getElem h2);exact of_decide_eq_true this
def eqRow (f:FuncId) (ks ks':List Ex) (N:Nat) (w:World):Prop :=
 ∀ a∈ks,∀ b∈ks',∀ W va vb,Below w.heap.size w W→ExAt N W va a→ExAt N W vb b→Calls Tryz.prog f #[va,vb] W (tBool (eqB a b) W)
theorem equal_any (ks ks':List Ex) (pl pl':Nat→Option Addr) (cl cl':Nat→Nat) (p p':Option Addr) (cap cap' N:Nat) (w:World) (ha:ArgsAt N w p cap pl cl ks) (hb:ArgsAt N w p' cap' pl' cl' ks') (hN:N≤w.heap.size) (hk:ks.length≤10000)
  (hc:eqRow 114 ks ks' N w) :
  Calls Tryz.prog 163 #[.slice p ks.length cap,.slice p' ks'.length cap',.func (.func 114) #[] #[]] w (tBool (eqL ks ks') w):=by
 have HA:=Lh ha;have HB:=Lh hb;have HC:=Lh hc;have hkb:=hb.hl;have HB0:=Lh (Below.refl w.heap.size w);by_cases hl:ks.length=ks'.length
 ·have HL:=Lh hl;obtain⟨K,hK⟩:∃ K,ks.length=K:=⟨_,rfl⟩;have HK:=Lh hK;rw [←hl,hK];rw [hK] at hk;clear hK ha hb hc hl hkb
  go_enter Tryz.func163,Tryz.ntmps163
  go_wp2;go_loopw [17] (fun i wr=>∃ j:Nat,j≤K∧i=.int .i64 j∧Hid (∀ (i:Nat) (x y:Ex),i<j→ks[i]? = some x→ks'[i]? = some y→eqB x y=true)∧Hid (Below w.heap.size w wr)) (fun i _=>K - (intOf i).toNat)
  case atStart=>exact⟨0,Nat.zero_le _,rfl,Lh (fun i _ _ h=>by omega),HB0⟩
  case round =>
   obtain⟨j,hj,rfl,AL,BW⟩:=hrel;by_cases hlt:j<K
   ·obtain⟨b,off,rfl,hbs,hcell⟩:=HA.out.hp (by rw [HK.out];omega);obtain⟨b',off',rfl,hbs',hcell'⟩:=HB.out.hp (by rw [←HL.out,HK.out];omega);obtain⟨a,hak⟩:∃ a,ks[j]? = some a:=⟨_,List.getElem?_eq_getElem (by rw [HK.out];exact hlt)⟩;obtain⟨d,hdk⟩:∃ d,ks'[j]? = some d:=⟨_,List.getElem?_eq_getElem (by rw [←HL.out,HK.out];exact hlt)⟩;obtain⟨q0,q1,q2,q3⟩:=hcell j a hak;obtain⟨r0,r1,r2,r3⟩:=hcell' j d hdk;have hbw:Below N w wr:=BW.out.mono hN;have hbA:∀ v,Below wr.heap.size wr (wr.alloc v):=(fun v=>(Below.refl _ _).alloc (Nat.le_refl _) _);have ca0:wr.cell? ⟨b,off+j*4,none⟩=some (.int .i64 a.op):=(by rw [hbw.cell hbs];exact q0);have ca1:wr.cell? ⟨b,off+j*4+1,none⟩=some (.int .i64 a.n):=(by rw [hbw.cell hbs];exact q1);have ca2:wr.cell? ⟨b,off+j*4+2,none⟩=some (.string a.nm):=(by rw [hbw.cell hbs];exact q2);have ca3:wr.cell? ⟨b,off+j*4+3,none⟩=some (.slice (pl j) a.args.length (cl j)):=(by rw [hbw.cell hbs];exact q3);have cb0:∀ v,(wr.alloc v).cell? ⟨b',off'+j*4,none⟩=some (.int .i64 d.op):=(fun v=>by rw [(hbw.trans ((hbA v).mono (by have:=BW.out.size;omega))).cell hbs'];exact r0);have cb1:∀ v,(wr.alloc v).cell? ⟨b',off'+j*4+1,none⟩=some (.int .i64 d.n):=(fun v=>by rw [(hbw.trans ((hbA v).mono (by have:=BW.out.size;omega))).cell hbs'];exact r1);have cb2:∀ v,(wr.alloc v).cell? ⟨b',off'+j*4+2,none⟩=some (.string d.nm):=(fun v=>by rw [(hbw.trans ((hbA v).mono (by have:=BW.out.size;omega))).cell hbs'];exact r2);have cb3:∀ v,(wr.alloc v).cell? ⟨b',off'+j*4+3,none⟩=some (.slice (pl' j) d.args.length (cl' j)):=(fun v=>by rw [(hbw.trans ((hbA v).mono (by have:=BW.out.size;omega))).cell hbs'];exact r3);have hxa:=HA.out.hx j a hak;have hxb:=HB.out.hx j d hdk;have HCA:Hid (∀ W,Below w.heap.size w W→Calls Tryz.prog 114 #[xv a.op a.n a.nm (.slice (pl j) a.args.length (cl j)),xv d.op d.n d.nm (.slice (pl' j) d.args.length (cl' j))] W (tBool (eqB a d) W)):=(Lh fun W hb=>HC.out a (List.mem_of_getElem? hak) d (List.mem_of_getElem? hdk) W _ _ hb (hxa.under (hb.mono hN)) (hxb.under (hb.mono hN)));have HAK:=Lh hak;have HDK:=Lh hdk;obtain⟨v,hv⟩:∃ v,eqB a d=v:=⟨_,rfl⟩;have HV:=Lh hv;rw [hv] at HCA;obtain⟨ao,hao⟩:∃ x,a.op=x:=⟨_,rfl⟩;obtain⟨an,han⟩:∃ x,a.n=x:=⟨_,rfl⟩;obtain⟨am,ham⟩:∃ x,a.nm=x:=⟨_,rfl⟩;obtain⟨ak,hka⟩:∃ x,a.args.length=x:=⟨_,rfl⟩;obtain⟨ap,hap⟩:∃ x,pl j=x:=⟨_,rfl⟩;obtain⟨ac,hac⟩:∃ x,cl j=x:=⟨_,rfl⟩;obtain⟨bo,hbo⟩:∃ x,d.op=x:=⟨_,rfl⟩;obtain⟨bn,hbn⟩:∃ x,d.n=x:=⟨_,rfl⟩;obtain⟨bm,hbm⟩:∃ x,d.nm=x:=⟨_,rfl⟩;obtain⟨bk,hbk⟩:∃ x,d.args.length=x:=⟨_,rfl⟩;obtain⟨bp,hbp⟩:∃ x,pl' j=x:=⟨_,rfl⟩;obtain⟨bc,hbc⟩:∃ x,cl' j=x:=⟨_,rfl⟩;rw [hao] at ca0 HCA;rw [han] at ca1 HCA;rw [ham] at ca2 HCA;rw [hka,hap,hac] at ca3 HCA;rw [hbo] at cb0 HCA;rw [hbn] at cb1 HCA;rw [hbm] at cb2 HCA;rw [hbk,hbp,hbc] at cb3 HCA;have db0:=cb0 (.cells #[.int .i64 ao,.int .i64 an,.string am,.slice ap ak ac] 43);have db1:=cb1 (.cells #[.int .i64 ao,.int .i64 an,.string am,.slice ap ak ac] 43);have db2:=cb2 (.cells #[.int .i64 ao,.int .i64 an,.string am,.slice ap ak ac] 43);have db3:=cb3 (.cells #[.int .i64 ao,.int .i64 an,.string am,.slice ap ak ac] 43);have FA:=(Four.new wr (.int .i64 ao) (.int .i64 an) (.string am) (.slice ap ak ac) 43).alloc (.cells #[.int .i64 bo,.int .i64 bn,.string bm,.slice bp bk bc] 43);have FB:=Four.new (wr.alloc (.cells #[.int .i64 ao,.int .i64 an,.string am,.slice ap ak ac] 43)) (.int .i64 bo) (.int .i64 bn) (.string bm) (.slice bp bk bc) 43;rw [World.size_alloc] at FB;have e0:=FA.c0;have e1:=FA.c1;have e2:=FA.c2;have e3:=FA.c3;have g0:=FB.c0;have g1:=FB.c1;have g2:=FB.c2;have g3:=FB.c3;have HB2:Hid (Below w.heap.size w ((wr.alloc (.cells #[.int .i64 ao,.int .i64 an,.string am,.slice ap ak ac] 43)).alloc (.cells #[.int .i64 bo,.int .i64 bn,.string bm,.slice bp bk bc] 43))):=Lh ((BW.out.alloc BW.out.size _).alloc (by have:=BW.out.size;simp;omega) _);have CC:=Lh (HCA.out _ HB2.out);clear hcell q0 q1 q2 q3 hcell' r0 r1 r2 r3 hbw hak hdk hao han ham hka hap hac hbo hbn hbm hbk hbp hbc cb0 cb1 cb2 cb3 hxa hxb hbA FA FB HCA hv;cases v
    ·go_wp2_with (go_at_call 114;((with_reducible refine CC.out.mono ?_);rintro e w5 ⟨rfl,hb⟩;have HB5:=Lh (HB2.out.then_ hb);clear hb))
     go_ret;exact tBool_mk (eqL_no HAK.out HDK.out HV.out).symm HB5.out
    ·go_wp2_with (go_at_call 114;((with_reducible refine CC.out.mono ?_);rintro e w5 ⟨rfl,hb⟩;have HB5:=Lh (HB2.out.then_ hb);clear hb))
     go_roundw
     case rel=>exact⟨j+1,by omega,by go_num,Lh (fun i x y hi hx hy=>by
      rcases Nat.lt_or_ge i j with h | h
      ·exact AL.out i x y h hx hy
      ·obtain rfl:i=j:=(by omega);rw [HAK.out] at hx;rw [HDK.out] at hy;cases hx;cases hy;exact HV.out),HB5⟩
     case measure=>simp [intOf];omega
   ·have AL2:=Lh (eqL_yes HL.out (fun i x y hi=>AL.out i x y (by rw [HK.out] at hi;omega)));go_wp2;go_ret;exact tBool_mk AL2.out.symm BW.out
 ·have HE:=Lh (eqL_len hl);obtain⟨K,hK⟩:∃ K,ks.length=K:=⟨_,rfl⟩;obtain⟨L,hL⟩:∃ L,ks'.length=L:=⟨_,rfl⟩;rw [hK,hL];rw [hK,hL] at hl;have h0:((K:Int) == (L:Int))=false:=(by rw [beq_eq_false_iff_ne];omega);clear hl hK hL ha hb hc hk hkb
  go_enter Tryz.func163,Tryz.ntmps163
  go_wp2;go_ret;exact tBool_mk HE.out.symm HB0.out
theorem same_any (a:Ex):∀ (b:Ex) (N:Nat) (w:World) (va vb:Value),ExAt N w va a→ExAt N w vb b→N≤w.heap.size→sz a≤10000→Calls Tryz.prog 114 #[va,vb] w (tBool (eqB a b) w):=by
 induction a using Ex.ind with
 | h o n s ks ih =>
  intro b N w va vb hx hy hN hsz;obtain⟨o',n',s',ks'⟩:=b;obtain⟨p,cap,pl,cl,rfl,hs,ha⟩:=hx.form;obtain⟨p',cap',pl',cl',rfl,hs',hb⟩:=hy.form;simp only [Ex.op,Ex.n,Ex.nm,Ex.args] at hs ha hs' hb ⊢;rw [sz_mk] at hsz;have hl:=len_szs ks;have EE:=Lh (eqB_mk o n s ks o' n' s' ks');have hb1:Below w.heap.size w ((w.alloc (.cells #[.int .i64 o,.int .i64 n,.string s,.slice p ks.length cap] 43)).alloc (.cells #[.int .i64 o',.int .i64 n',.string s',.slice p' ks'.length cap'] 43)):=((Below.refl _ _).alloc (Nat.le_refl _) _).alloc (by simp) _;have CC:=Lh (equal_any ks ks' pl pl' cl cl' p p' cap cap' N _ (ha.under (hb1.mono hN)) (hb.under (hb1.mono hN)) (by have:=hb1.size;omega) (by omega) (fun a ha' b hb' W va vb hW hxa hxb=>ih a ha' b N W va vb hxa hxb (by have:=hW.size;have:=hb1.size;omega) (by have:=sz_mem ha';omega)));have FA:=(Four.new w (.int .i64 o) (.int .i64 n) (.string s) (.slice p ks.length cap) 43).alloc (.cells #[.int .i64 o',.int .i64 n',.string s',.slice p' ks'.length cap'] 43);have FB:=Four.new (w.alloc (.cells #[.int .i64 o,.int .i64 n,.string s,.slice p ks.length cap] 43)) (.int .i64 o') (.int .i64 n') (.string s') (.slice p' ks'.length cap') 43;rw [World.size_alloc] at FB;have HB1:=Lh hb1;clear ha hb hx hy ih hb1 hs hs' hsz hl;generalize ks.length=K at *
  generalize ks'.length=K' at *
  generalize eqL ks ks'=q at *
  have e0:=FA.c0;have e1:=FA.c1;have e2:=FA.c2;have e3:=FA.c3;have g0:=FB.c0;have g1:=FB.c1;have g2:=FB.c2;have g3:=FB.c3;clear FA FB;cases h1:(o == o')<;>cases h2:(n == n')<;>cases h3:(s.toList == s'.toList)
  all_goals
   rw [h1,h2,h3] at EE
   go_enter Tryz.func114,Tryz.ntmps114
   go_wp2_with (go_at_call 163;((with_reducible refine CC.out.mono ?_);rintro e w5 ⟨rfl,hb⟩;have HB5:=Lh (HB1.out.then_ hb);clear hb))
   go_ret;first
    | exact tBool_mk (by rw [EE.out];rfl) HB5.out
    | exact tBool_mk (by rw [EE.out];rfl) HB1.out
end ExW
namespace ExW
open Go Go.RowKit NumM LexW LexM ExM
open Go.«Sort»
theorem ne_of_beq {a b:Int} {x:Bool} (h:(a == b)=x):(a != b) = !x:=by rw [bne,h]
theorem sameR_any (a:Ex):∀ (b:Ex) (N:Nat) (w:World) (va vb:Value),ExAt N w va a→ExAt N w vb b→N≤w.heap.size→sz a≤10000→Calls Tryz.prog 28 #[va,vb] w (tBool (eqB a b) w):=by
 induction a using Ex.ind with
 | h o n s ks ih =>
  intro b N w va vb hx hy hN hsz;obtain⟨o',n',s',ks'⟩:=b;obtain⟨p,cap,pl,cl,rfl,hs,ha⟩:=hx.form;obtain⟨p',cap',pl',cl',rfl,hs',hb⟩:=hy.form;simp only [Ex.op,Ex.n,Ex.nm,Ex.args] at hs ha hs' hb ⊢;rw [sz_mk] at hsz;have hl:=len_szs ks;have hk:ks.length≤10000:=(by omega);have hk':=hb.hl;have EE:=Lh (eqB_mk o n s ks o' n' s' ks');have hb1:Below w.heap.size w ((w.alloc (.cells #[.int .i64 o,.int .i64 n,.string s,.slice p ks.length cap] 43)).alloc (.cells #[.int .i64 o',.int .i64 n',.string s',.slice p' ks'.length cap'] 43)):=((Below.refl _ _).alloc (Nat.le_refl _) _).alloc (by simp) _;have FA:=(Four.new w (.int .i64 o) (.int .i64 n) (.string s) (.slice p ks.length cap) 43).alloc (.cells #[.int .i64 o',.int .i64 n',.string s',.slice p' ks'.length cap'] 43);have FB:=Four.new (w.alloc (.cells #[.int .i64 o,.int .i64 n,.string s,.slice p ks.length cap] 43)) (.int .i64 o') (.int .i64 n') (.string s') (.slice p' ks'.length cap') 43;rw [World.size_alloc] at FB;have HB1:=Lh hb1;have HIH:Hid (∀ a∈ks,∀ b∈ks',∀ W va vb,Below w.heap.size w W→ExAt N W va a→ExAt N W vb b→Calls Tryz.prog 28 #[va,vb] W (tBool (eqB a b) W)):=(Lh fun a ha' b hb' W va vb hW hxa hxb=>ih a ha' b N W va vb hxa hxb (by have:=hW.size;omega) (by have:=sz_mem ha';omega));have HA:=Lh ha;have HB:=Lh hb;clear ha hb hx hy ih hb1 hs hs' hsz hl;obtain⟨K,hK⟩:∃ K,ks.length=K:=⟨_,rfl⟩;obtain⟨K',hK'⟩:∃ K',ks'.length=K':=⟨_,rfl⟩;have HK:=Lh hK;have HK':=Lh hK';rw [hK] at HB1 FA FB hk ⊢;rw [hK'] at HB1 FA FB hk' ⊢;clear hK hK';have e0:=FA.c0;have e1:=FA.c1;have e2:=FA.c2;have e3:=FA.c3;have g0:=FB.c0;have g1:=FB.c1;have g2:=FB.c2;have g3:=FB.c3;have HFA:=Lh FA;have HFB:=Lh FB;clear FA FB;by_cases hall:(o == o')=true∧(n == n')=true∧(s.toList == s'.toList)=true∧K=K'
  ·obtain⟨h1,h2,h3,rfl⟩:=hall;have HL:Hid (eqB (.mk o n s ks) (.mk o' n' s' ks')=eqL ks ks'):=Lh (by rw [EE.out,h1,h2,h3];rfl);have i1:=ne_of_beq h1;have i2:=ne_of_beq h2;clear EE
   go_enter Tryz.func28,Tryz.ntmps28
   go_wp2;go_loopw [5] (fun i wr=>∃ j:Nat,j≤K∧i=.int .i64 j∧Hid (∀ (i:Nat) (x y:Ex),i<j→ks[i]? = some x→ks'[i]? = some y→eqB x y=true)∧Hid (Below w.heap.size w wr)∧Hid (Four wr w.heap.size (.int .i64 o) (.int .i64 n) (.string s) (.slice p K cap))∧Hid (Four wr (w.heap.size+1) (.int .i64 o') (.int .i64 n') (.string s') (.slice p' K cap'))) (fun i _=>K - (intOf i).toNat)
   case atStart=>exact⟨0,Nat.zero_le _,rfl,Lh (fun i _ _ h=>by omega),HB1,HFA,HFB⟩
   case round =>
    obtain⟨j,hj,rfl,AL,BW,FA,FB⟩:=hrel;clear e0 e1 e2 e3 g0 g1 g2 g3;have e3:=FA.out.c3;have g3:=FB.out.c3;by_cases hlt:j<K
    ·obtain⟨b,off,rfl,hbs,hcell⟩:=HA.out.hp (by rw [HK.out];omega);obtain⟨b',off',rfl,hbs',hcell'⟩:=HB.out.hp (by rw [HK'.out];omega);obtain⟨a,hak⟩:∃ a,ks[j]? = some a:=⟨_,List.getElem?_eq_getElem (by rw [HK.out];exact hlt)⟩;obtain⟨d,hdk⟩:∃ d,ks'[j]? = some d:=⟨_,List.getElem?_eq_getElem (by rw [HK'.out];exact hlt)⟩;obtain⟨q0,q1,q2,q3⟩:=hcell j a hak;obtain⟨r0,r1,r2,r3⟩:=hcell' j d hdk;have hbw:Below N w wr:=BW.out.mono hN;have ca0:wr.cell? ⟨b,off+j*4,none⟩=some (.int .i64 a.op):=(by rw [hbw.cell hbs];exact q0);have ca1:wr.cell? ⟨b,off+j*4+1,none⟩=some (.int .i64 a.n):=(by rw [hbw.cell hbs];exact q1);have ca2:wr.cell? ⟨b,off+j*4+2,none⟩=some (.string a.nm):=(by rw [hbw.cell hbs];exact q2);have ca3:wr.cell? ⟨b,off+j*4+3,none⟩=some (.slice (pl j) a.args.length (cl j)):=(by rw [hbw.cell hbs];exact q3);have cb0:wr.cell? ⟨b',off'+j*4,none⟩=some (.int .i64 d.op):=(by rw [hbw.cell hbs'];exact r0);have cb1:wr.cell? ⟨b',off'+j*4+1,none⟩=some (.int .i64 d.n):=(by rw [hbw.cell hbs'];exact r1);have cb2:wr.cell? ⟨b',off'+j*4+2,none⟩=some (.string d.nm):=(by rw [hbw.cell hbs'];exact r2);have cb3:wr.cell? ⟨b',off'+j*4+3,none⟩=some (.slice (pl' j) d.args.length (cl' j)):=(by rw [hbw.cell hbs'];exact r3);have hxa:=HA.out.hx j a hak;have hxb:=HB.out.hx j d hdk;have HCA:∀ W,Below wr.heap.size wr W→Calls Tryz.prog 28 #[xv a.op a.n a.nm (.slice (pl j) a.args.length (cl j)),xv d.op d.n d.nm (.slice (pl' j) d.args.length (cl' j))] W (tBool (eqB a d) W):=(fun W hb=>HIH.out a (List.mem_of_getElem? hak) d (List.mem_of_getElem? hdk) W _ _ (BW.out.then_ hb) ((hxa.under hbw).under (hb.mono (by have:=BW.out.size;omega))) ((hxb.under hbw).under (hb.mono (by have:=BW.out.size;omega))));have HAK:=Lh hak;have HDK:=Lh hdk;obtain⟨v,hv⟩:∃ v,eqB a d=v:=⟨_,rfl⟩;have HV:=Lh hv;rw [hv] at HCA;obtain⟨ao,hao⟩:∃ x,a.op=x:=⟨_,rfl⟩;obtain⟨an,han⟩:∃ x,a.n=x:=⟨_,rfl⟩;obtain⟨am,ham⟩:∃ x,a.nm=x:=⟨_,rfl⟩;obtain⟨ak,hka⟩:∃ x,a.args.length=x:=⟨_,rfl⟩;obtain⟨ap,hap⟩:∃ x,pl j=x:=⟨_,rfl⟩;obtain⟨ac,hac⟩:∃ x,cl j=x:=⟨_,rfl⟩;obtain⟨bo,hbo⟩:∃ x,d.op=x:=⟨_,rfl⟩;obtain⟨bn,hbn⟩:∃ x,d.n=x:=⟨_,rfl⟩;obtain⟨bm,hbm⟩:∃ x,d.nm=x:=⟨_,rfl⟩;obtain⟨bk,hbk⟩:∃ x,d.args.length=x:=⟨_,rfl⟩;obtain⟨bp,hbp⟩:∃ x,pl' j=x:=⟨_,rfl⟩;obtain⟨bc,hbc⟩:∃ x,cl' j=x:=⟨_,rfl⟩;rw [hao] at ca0 HCA;rw [han] at ca1 HCA;rw [ham] at ca2 HCA;rw [hka,hap,hac] at ca3 HCA;rw [hbo] at cb0 HCA;rw [hbn] at cb1 HCA;rw [hbm] at cb2 HCA;rw [hbk,hbp,hbc] at cb3 HCA;have EC:=reB (v:=.bool v) HCA;have m1:=cell_regrown e3;have m2:=cell_regrown g3;have m3:=cell_regrown ca0;have m4:=cell_regrown ca1;have m5:=cell_regrown ca2;have m6:=cell_regrown ca3;have m7:=cell_regrown cb0;have m8:=cell_regrown cb1;have m9:=cell_regrown cb2;have m10:=cell_regrown cb3;clear hcell q0 q1 q2 q3 hcell' r0 r1 r2 r3 hbw hak hdk hao han ham hka hap hac hbo hbn hbm hbk hbp hbc hxa hxb hv HCA;go_wp2;refine wp_region_quiet_below (by kernel_rfl) (by kernel_rfl) ?_;repeat (first | go_big_quiet_step (exact EC _ _) | quiet_step (exact EC _ _))
     refine wpQuiet_nil ?_;intro w4 hw';obtain⟨pq,hw''⟩:=hw';have HX:Hid (Below wr.heap.size wr w4):=Lh (by rw [hw''];exact below_regrown _ _ _);clear hw'' m1 m2 m3 m4 m5 m6 m7 m8 m9 m10 EC e3 g3 ca0 ca1 ca2 ca3 cb0 cb1 cb2 cb3;cases v
     ·go_wp2;go_ret;exact tBool_mk (by rw [HL.out];exact (eqL_no HAK.out HDK.out HV.out).symm) (BW.out.then_ HX.out)
     ·go_wp2;go_roundw
      case rel=>exact⟨j+1,by omega,by go_num,Lh (fun i x y hi hx hy=>by
       rcases Nat.lt_or_ge i j with h | h
       ·exact AL.out i x y h hx hy
       ·obtain rfl:i=j:=(by omega);rw [HAK.out] at hx;rw [HDK.out] at hy;cases hx;cases hy;exact HV.out),Lh (BW.out.then_ HX.out),Lh (FA.out.stay HX.out),Lh (FB.out.stay HX.out)⟩
      case measure=>simp [intOf];omega
    ·have AL2:=Lh (eqL_yes (a:=ks) (b:=ks') (by rw [HK.out,HK'.out]) (fun i x y hi=>AL.out i x y (by rw [HK.out] at hi;omega)));go_wp2;go_ret;exact tBool_mk (by rw [HL.out];exact AL2.out.symm) BW.out
  ·have HL:Hid (false=eqB (.mk o n s ks) (.mk o' n' s' ks')):=Lh (by
    rw [EE.out];cases h1:(o == o')
    ·rfl
    ·cases h2:(n == n')
     ·rfl
     ·cases h3:(s.toList == s'.toList)
      ·rfl
      ·rw [eqL_len (by rw [HK.out,HK'.out];intro h4;exact hall ⟨h1,h2,h3,h4⟩)];rfl)
   have h5:(o == o')=false∨((o == o')=true∧(n == n')=false)∨((o == o')=true∧(n == n')=true∧(s.toList == s'.toList)=false)∨((o == o')=true∧(n == n')=true∧(s.toList == s'.toList)=true∧((K:Int) == (K':Int))=false):=by
    cases h1:(o == o')
    ·exact .inl rfl
    ·cases h2:(n == n')
     ·exact .inr (.inl ⟨rfl,rfl⟩)
     ·cases h3:(s.toList == s'.toList)
      ·exact .inr (.inr (.inl ⟨rfl,rfl,rfl⟩))
      ·exact .inr (.inr (.inr ⟨rfl,rfl,rfl,by rw [beq_eq_false_iff_ne];intro h4;exact hall ⟨h1,h2,h3,by omega⟩⟩))
   clear hall EE;rcases h5 with h1 | ⟨h1,h2⟩ | ⟨h1,h2,h3⟩ | ⟨h1,h2,h3,h4⟩
   all_goals
    have i1:=ne_of_beq h1;try have i2:=ne_of_beq h2
    try have i4:=ne_of_beq h4
    go_enter Tryz.func28,Tryz.ntmps28
    go_wp2;go_ret;exact tBool_mk HL.out HB1.out
end ExW
end Go.Proofs.YtpejflgdehioaaaGreatDoor
