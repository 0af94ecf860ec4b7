/-
  Laws that the card uses; no conditions beside those that each states (ClCheck ClRValid).
-/
import Derived.Test.YtihnejaopejbgaaGreatDoorP44
set_option maxRecDepth 100000
set_option maxHeartbeats 16000000
namespace Go.Proofs.YtihnejaopejbgaaGreatDoor
namespace ClW
open Go Go.RowKit NumM LexW LexM ClM
theorem zero_all {α:Type} {f:α→Int} {l:List α} {k:Nat} (hk:l.length≤k) (hz:∀ y∈(l.map f).take k,y=0):firstE (l.map f)=0:=by
 rw [firstE_zero];rw [List.take_of_length_le (by rw [List.length_map];exact hk)] at hz;exact hz
theorem quietL {P:Program} {f:FuncId} {args:Array Value} {w:World} {n:Nat} {v:Value}
  (h:Calls P f args (w.drewN n) fun e w'=>e=.returned v∧w.drewN n=w'):Calls P f args (w.drewN n) fun e w''=>e=.returned v∧∃ m,w''=w.drewN m :=
 h.mono fun _ _ ⟨he,hm⟩=>⟨he,n,hm.symm⟩
theorem dB {w:World} {n:Nat}:Below w.heap.size w (w.drewN n):=drewB (Below.refl _ _)
theorem any_names {α:Type} {l:List α} {f:α→ByteArray} {j:Nat} {x:ByteArray}:(l.take j).any (fun a=>same (f a) x)=true↔x∈(l.map f).take j:=by
 rw [←List.map_take,List.any_eq_true];constructor
 ·rintro ⟨a,ha,h⟩;rw [←same_iff.1 h];exact List.mem_map_of_mem ha
 ·intro h;obtain⟨a,ha,e⟩:=List.mem_map.1 h;exact⟨a,ha,same_iff.2 e⟩
theorem dup_of_any {α:Type} {l:List α} {f:α→ByteArray} {j:Nat} {x:α} (h:l[j]? = some x) (ha:(l.take j).any (fun a=>same (f a) (f x))=true):dupB (l.map f)=true :=
 dupB_yes (k:=j) (by rw [List.getElem?_map,h];rfl) (any_names.1 ha)
theorem dup_next {α:Type} {l:List α} {f:α→ByteArray} {j:Nat} {x:α} (h:l[j]? = some x) (ha:(l.take j).any (fun a=>same (f a) (f x))=false) (hd:dupB ((l.map f).take j)=false):dupB ((l.map f).take (j+1))=false :=
 dupB_step (by rw [List.getElem?_map,h];rfl) hd (fun hm=>by rw [any_names.2 hm] at ha;cases ha)
theorem take_len {α:Type} {l:List α} {j K:Nat} (hl:l.length=K) (h:j≤K):(l.take j).length=j:=by rw [List.length_take];omega
theorem dup_all {l:List ByteArray} {j:Nat} (h:l.length≤j) (hd:dupB (l.take j)=false):dupB l=false:=by rw [List.take_of_length_le h] at hd;exact hd
theorem validR_1 (c:Cl) (pf:Option Addr) (cf:Nat) (pb:Option Addr) (cb N:Nat) (w:World) (hv:CV (Lo N) w pf cf pb cb c) (h1:bad c.nm=true) :
  Calls Tryz.prog 36 #[cv c.nm c.par (.slice pf c.fs.length cf) (.slice pb c.bs.length cb)] w (tInt 7 w):=by
 have NC:Hid (∀ W,Below w.heap.size w W→Calls Tryz.prog 63 #[.string c.nm] W (tBool (!bad c.nm) W)):=(Lh fun W _=>isNmR_any c.nm W hv.nm);have PC:Hid (∀ W,Below w.heap.size w W→Calls Tryz.prog 63 #[.string c.par] W (tBool (!bad c.par) W)):=(Lh fun W _=>isNmR_any c.par W hv.par);obtain⟨_,_,Gf,ef,rf⟩:=hv.fs.rowOf;rw [List.length_map] at ef;cases ef;obtain⟨_,_,Gb,eb,rb⟩:=hv.bs.rowOf;rw [List.length_map] at eb;cases eb;have hlf:=rf.hl;have hlb:=rb.hl;have hcf:=rf.hc;have hcb:=rb.hc;rw [List.length_map] at hlf hlb hcf hcb;simp only [byt] at hlf hlb;have RF:=Lh rf;have RB:=Lh rb;obtain⟨K,hK⟩:∃ K,c.fs.length=K:=⟨_,rfl⟩;obtain⟨M,hM⟩:∃ K,c.bs.length=K:=⟨_,rfl⟩;have HK:=Lh hK;have HM:=Lh hM;rw [hK] at hlf hcf ⊢;rw [hM] at hlb hcb ⊢;have F0:=Blk.new w [.string c.nm,.string c.par,.slice pf K cf,.slice pb M cb] 32;have hb0:=ba w (.cells #[.string c.nm,.string c.par,.slice pf K cf,.slice pb M cb] 32);have HF:=Lh F0;have HB0:=Lh hb0;have c0:=F0.c 0 _ rfl;have c1:=F0.c 1 _ rfl;have c2:=F0.c 2 _ rfl;have c3:=F0.c 3 _ rfl;clear F0 hb0 hv rf rb hK hM;rw [h1] at NC;clear h1
 go_enter Tryz.func36,Tryz.ntmps36
 go_wp2_with (go_at_call 63;((with_reducible refine (NC.out _ HB0.out).mono ?_);rintro e w1 ⟨rfl,hb⟩;have HB1:=Lh (HB0.out.then_ hb);have G:=HF.out.stay hb;(try clear c0);(try clear c1);(try clear c2);(try clear c3);have c0:=G.c 0 _ rfl;have c1:=G.c 1 _ rfl;have c2:=G.c 2 _ rfl;have c3:=G.c 3 _ rfl;have HG1:=Lh G;clear hb G))
 go_ret;exact⟨rfl,HB1.out⟩
theorem validR_2 (c:Cl) (pf:Option Addr) (cf:Nat) (pb:Option Addr) (cb N:Nat) (w:World) (hv:CV (Lo N) w pf cf pb cb c) (h1:bad c.nm=false) (h2:same c.par emp=false) (h3:bad c.par=true) :
  Calls Tryz.prog 36 #[cv c.nm c.par (.slice pf c.fs.length cf) (.slice pb c.bs.length cb)] w (tInt 7 w):=by
 have NC:Hid (∀ W,Below w.heap.size w W→Calls Tryz.prog 63 #[.string c.nm] W (tBool (!bad c.nm) W)):=(Lh fun W _=>isNmR_any c.nm W hv.nm);have PC:Hid (∀ W,Below w.heap.size w W→Calls Tryz.prog 63 #[.string c.par] W (tBool (!bad c.par) W)):=(Lh fun W _=>isNmR_any c.par W hv.par);obtain⟨_,_,Gf,ef,rf⟩:=hv.fs.rowOf;rw [List.length_map] at ef;cases ef;obtain⟨_,_,Gb,eb,rb⟩:=hv.bs.rowOf;rw [List.length_map] at eb;cases eb;have hlf:=rf.hl;have hlb:=rb.hl;have hcf:=rf.hc;have hcb:=rb.hc;rw [List.length_map] at hlf hlb hcf hcb;simp only [byt] at hlf hlb;have RF:=Lh rf;have RB:=Lh rb;obtain⟨K,hK⟩:∃ K,c.fs.length=K:=⟨_,rfl⟩;obtain⟨M,hM⟩:∃ K,c.bs.length=K:=⟨_,rfl⟩;have HK:=Lh hK;have HM:=Lh hM;rw [hK] at hlf hcf ⊢;rw [hM] at hlb hcb ⊢;have F0:=Blk.new w [.string c.nm,.string c.par,.slice pf K cf,.slice pb M cb] 32;have hb0:=ba w (.cells #[.string c.nm,.string c.par,.slice pf K cf,.slice pb M cb] 32);have HF:=Lh F0;have HB0:=Lh hb0;have c0:=F0.c 0 _ rfl;have c1:=F0.c 1 _ rfl;have c2:=F0.c 2 _ rfl;have c3:=F0.c 3 _ rfl;clear F0 hb0 hv rf rb hK hM;have e1:=same_nil h2;rw [h1] at NC;rw [h3] at PC;clear h1 h2 h3
 go_enter Tryz.func36,Tryz.ntmps36
 go_wp2_with (first
  |(go_at_call 63;((with_reducible refine (NC.out _ HB0.out).mono ?_);rintro e w1 ⟨rfl,hb⟩;have HB1:=Lh (HB0.out.then_ hb);have G:=HF.out.stay hb;(try clear c0);(try clear c1);(try clear c2);(try clear c3);have c0:=G.c 0 _ rfl;have c1:=G.c 1 _ rfl;have c2:=G.c 2 _ rfl;have c3:=G.c 3 _ rfl;have HG1:=Lh G;clear hb G))
  |(go_at_call 63;((with_reducible refine (PC.out _ HB1.out).mono ?_);rintro e w2 ⟨rfl,hb⟩;have HB2:=Lh (HB1.out.then_ hb);have G:=HG1.out.stay hb;(try clear c0);(try clear c1);(try clear c2);(try clear c3);have c0:=G.c 0 _ rfl;have c1:=G.c 1 _ rfl;have c2:=G.c 2 _ rfl;have c3:=G.c 3 _ rfl;have HG2:=Lh G;clear hb G)))
 go_ret;exact⟨rfl,HB2.out⟩
theorem validR_30 (c:Cl) (pf:Option Addr) (cf:Nat) (pb:Option Addr) (cb N:Nat) (w:World) (hv:CV (Lo N) w pf cf pb cb c) (h1:bad c.nm=false) (h2:same c.par emp=true) (h4:16<c.fs.length) :
  Calls Tryz.prog 36 #[cv c.nm c.par (.slice pf c.fs.length cf) (.slice pb c.bs.length cb)] w (tInt 2 w):=by
 have NC:Hid (∀ W,Below w.heap.size w W→Calls Tryz.prog 63 #[.string c.nm] W (tBool (!bad c.nm) W)):=(Lh fun W _=>isNmR_any c.nm W hv.nm);have PC:Hid (∀ W,Below w.heap.size w W→Calls Tryz.prog 63 #[.string c.par] W (tBool (!bad c.par) W)):=(Lh fun W _=>isNmR_any c.par W hv.par);obtain⟨_,_,Gf,ef,rf⟩:=hv.fs.rowOf;rw [List.length_map] at ef;cases ef;obtain⟨_,_,Gb,eb,rb⟩:=hv.bs.rowOf;rw [List.length_map] at eb;cases eb;have hlf:=rf.hl;have hlb:=rb.hl;have hcf:=rf.hc;have hcb:=rb.hc;rw [List.length_map] at hlf hlb hcf hcb;simp only [byt] at hlf hlb;have RF:=Lh rf;have RB:=Lh rb;obtain⟨K,hK⟩:∃ K,c.fs.length=K:=⟨_,rfl⟩;obtain⟨M,hM⟩:∃ K,c.bs.length=K:=⟨_,rfl⟩;have HK:=Lh hK;have HM:=Lh hM;rw [hK] at hlf hcf ⊢;rw [hM] at hlb hcb ⊢;have F0:=Blk.new w [.string c.nm,.string c.par,.slice pf K cf,.slice pb M cb] 32;have hb0:=ba w (.cells #[.string c.nm,.string c.par,.slice pf K cf,.slice pb M cb] 32);have HF:=Lh F0;have HB0:=Lh hb0;have c0:=F0.c 0 _ rfl;have c1:=F0.c 1 _ rfl;have c2:=F0.c 2 _ rfl;have c3:=F0.c 3 _ rfl;clear F0 hb0 hv rf rb hK hM;have e1:=same_nil h2;rw [h1] at NC;have d1:decide ((16:Int)<K)=true:=decide_eq_true (by have:=HK.out;omega);clear h1 h2 h4
 go_enter Tryz.func36,Tryz.ntmps36
 go_wp2_with (go_at_call 63;((with_reducible refine (NC.out _ HB0.out).mono ?_);rintro e w1 ⟨rfl,hb⟩;have HB1:=Lh (HB0.out.then_ hb);have G:=HF.out.stay hb;(try clear c0);(try clear c1);(try clear c2);(try clear c3);have c0:=G.c 0 _ rfl;have c1:=G.c 1 _ rfl;have c2:=G.c 2 _ rfl;have c3:=G.c 3 _ rfl;have HG1:=Lh G;clear hb G))
 go_ret;exact⟨rfl,HB1.out⟩
theorem validR_50 (c:Cl) (pf:Option Addr) (cf:Nat) (pb:Option Addr) (cb N:Nat) (w:World) (hv:CV (Lo N) w pf cf pb cb c) (h1:bad c.nm=false) (h2:same c.par emp=true) (h4:¬ 16<c.fs.length) (h5:16<c.bs.length) :
  Calls Tryz.prog 36 #[cv c.nm c.par (.slice pf c.fs.length cf) (.slice pb c.bs.length cb)] w (tInt 2 w):=by
 have NC:Hid (∀ W,Below w.heap.size w W→Calls Tryz.prog 63 #[.string c.nm] W (tBool (!bad c.nm) W)):=(Lh fun W _=>isNmR_any c.nm W hv.nm);have PC:Hid (∀ W,Below w.heap.size w W→Calls Tryz.prog 63 #[.string c.par] W (tBool (!bad c.par) W)):=(Lh fun W _=>isNmR_any c.par W hv.par);obtain⟨_,_,Gf,ef,rf⟩:=hv.fs.rowOf;rw [List.length_map] at ef;cases ef;obtain⟨_,_,Gb,eb,rb⟩:=hv.bs.rowOf;rw [List.length_map] at eb;cases eb;have hlf:=rf.hl;have hlb:=rb.hl;have hcf:=rf.hc;have hcb:=rb.hc;rw [List.length_map] at hlf hlb hcf hcb;simp only [byt] at hlf hlb;have RF:=Lh rf;have RB:=Lh rb;obtain⟨K,hK⟩:∃ K,c.fs.length=K:=⟨_,rfl⟩;obtain⟨M,hM⟩:∃ K,c.bs.length=K:=⟨_,rfl⟩;have HK:=Lh hK;have HM:=Lh hM;rw [hK] at hlf hcf ⊢;rw [hM] at hlb hcb ⊢;have F0:=Blk.new w [.string c.nm,.string c.par,.slice pf K cf,.slice pb M cb] 32;have hb0:=ba w (.cells #[.string c.nm,.string c.par,.slice pf K cf,.slice pb M cb] 32);have HF:=Lh F0;have HB0:=Lh hb0;have c0:=F0.c 0 _ rfl;have c1:=F0.c 1 _ rfl;have c2:=F0.c 2 _ rfl;have c3:=F0.c 3 _ rfl;clear F0 hb0 hv rf rb hK hM;have e1:=same_nil h2;rw [h1] at NC;have d1:decide ((16:Int)<K)=false:=decide_eq_false (by have:=HK.out;omega);have d2:decide ((16:Int)<M)=true:=decide_eq_true (by have:=HM.out;omega);clear h1 h2 h4 h5
 go_enter Tryz.func36,Tryz.ntmps36
 go_wp2_with (go_at_call 63;((with_reducible refine (NC.out _ HB0.out).mono ?_);rintro e w1 ⟨rfl,hb⟩;have HB1:=Lh (HB0.out.then_ hb);have G:=HF.out.stay hb;(try clear c0);(try clear c1);(try clear c2);(try clear c3);have c0:=G.c 0 _ rfl;have c1:=G.c 1 _ rfl;have c2:=G.c 2 _ rfl;have c3:=G.c 3 _ rfl;have HG1:=Lh G;clear hb G))
 go_ret;exact⟨rfl,HB1.out⟩
theorem validR_40 (c:Cl) (pf:Option Addr) (cf:Nat) (pb:Option Addr) (cb N:Nat) (w:World) (hv:CV (Lo N) w pf cf pb cb c) (hN:N≤w.heap.size) (h1:bad c.nm=false) (h2:same c.par emp=true) (h4:¬ 16<c.fs.length) (h5:¬ 16<c.bs.length) :
  Calls Tryz.prog 36 #[cv c.nm c.par (.slice pf c.fs.length cf) (.slice pb c.bs.length cb)] w (tInt (validE c) w):=by
 have NC:Hid (∀ W,Below w.heap.size w W→Calls Tryz.prog 63 #[.string c.nm] W (tBool (!bad c.nm) W)):=(Lh fun W _=>isNmR_any c.nm W hv.nm);have PC:Hid (∀ W,Below w.heap.size w W→Calls Tryz.prog 63 #[.string c.par] W (tBool (!bad c.par) W)):=(Lh fun W _=>isNmR_any c.par W hv.par);obtain⟨_,_,Gf,ef,rf⟩:=hv.fs.rowOf;rw [List.length_map] at ef;cases ef;obtain⟨_,_,Gb,eb,rb⟩:=hv.bs.rowOf;rw [List.length_map] at eb;cases eb;have hlf:=rf.hl;have hlb:=rb.hl;have hcf:=rf.hc;have hcb:=rb.hc;rw [List.length_map] at hlf hlb hcf hcb;simp only [byt] at hlf hlb;have RF:=Lh rf;have RB:=Lh rb;obtain⟨K,hK⟩:∃ K,c.fs.length=K:=⟨_,rfl⟩;obtain⟨M,hM⟩:∃ K,c.bs.length=K:=⟨_,rfl⟩;have HK:=Lh hK;have HM:=Lh hM;rw [hK] at hlf hcf ⊢;rw [hM] at hlb hcb ⊢;have F0:=Blk.new w [.string c.nm,.string c.par,.slice pf K cf,.slice pb M cb] 32;have hb0:=ba w (.cells #[.string c.nm,.string c.par,.slice pf K cf,.slice pb M cb] 32);have HF:=Lh F0;have HB0:=Lh hb0;have c0:=F0.c 0 _ rfl;have c1:=F0.c 1 _ rfl;have c2:=F0.c 2 _ rfl;have c3:=F0.c 3 _ rfl;clear F0 hb0 hv rf rb hK hM;have e1:=same_nil h2;rw [h1] at NC;have E:=Lh (validE_pre h1 (.inl h2));have h6:large c=false:=(by unfold large;rw [decide_eq_false h4,decide_eq_false h5];rfl);rw [h6] at E;have d1:decide ((16:Int)<K)=false:=decide_eq_false (by have:=HK.out;omega);have d2:decide ((16:Int)<M)=false:=decide_eq_false (by have:=HM.out;omega);clear h1 h2 h4 h5 h6
 go_enter Tryz.func36,Tryz.ntmps36
 go_wp2_with (go_at_call 63;((with_reducible refine (NC.out _ HB0.out).mono ?_);rintro e w1 ⟨rfl,hb⟩;have HB1:=Lh (HB0.out.then_ hb);have G:=HF.out.stay hb;(try clear c0);(try clear c1);(try clear c2);(try clear c3);have c0:=G.c 0 _ rfl;have c1:=G.c 1 _ rfl;have c2:=G.c 2 _ rfl;have c3:=G.c 3 _ rfl;have HG1:=Lh G;clear hb G))
 go_loopw [3] (fun i wr=>∃ j:Nat,j≤K∧i=.int .i64 j∧Hid (∀ x∈(c.fs.map fieldE).take j,x=0)∧Hid (Below w.heap.size w wr)∧Hid (Blk wr w.heap.size [.string c.nm,.string c.par,.slice pf K cf,.slice pb M cb])) (fun i _=>K - (intOf i).toNat)
 case atStart=>exact⟨0,Nat.zero_le _,rfl,Lh (by simp),HB1,HG1⟩
 case round =>
  obtain⟨j,hj,rfl,FZ,BW,BK⟩:=hrel
  (try clear c0);(try clear c1);(try clear c2);(try clear c3);(try clear d1);(try clear d2)
  have k2:=BK.out.c 2 _ rfl;have k3:=BK.out.c 3 _ rfl;by_cases hlt:j<K
  ·obtain⟨f,hf⟩:∃ f,c.fs[j]? = some f:=⟨_,List.getElem?_eq_getElem (by rw [HK.out];exact hlt)⟩;obtain⟨b,off,rfl,hb,f0,f1,f2,f3,f4,hsz⟩:=(RF.out.under (BW.out.mono hN)).fd hf;have VC:=Lh (valFieldR_any f.nm f.wd f.sz f.md f.ini wr hsz);have HFF:=Lh hf;clear hf hb;by_cases hz:fieldE f=0
   ·have FZ2:=Lh (first_next HFF.out FZ.out hz);rw [hz] at VC;clear hz;go_wp2_with (go_at_call 64;((with_reducible refine VC.out.mono ?_);rintro e w9 ⟨rfl,hb9⟩;have HB9:=Lh (BW.out.then_ hb9);have BK9:=Lh (BK.out.stay hb9);clear hb9))
    go_roundw
    case rel=>exact⟨j+1,by omega,by go_num,FZ2,HB9,BK9⟩
    case measure=>simp [intOf];omega
   ·have E2:Hid (fieldE f=validE c):=Lh (by have:=first_here HFF.out FZ.out hz;rw [E.out,if_neg (by simp),if_pos (by rw [this];exact hz),this]);have hze:(fieldE f == 0)=false:=(by rw [beq_eq_false_iff_ne];exact hz);have hzn:¬ fieldE f=0:=hz;rw [show (Fld.mk f.nm f.wd f.sz f.md f.ini)=f from rfl] at VC;generalize fieldE f=q at *
    clear hz;go_wp2_with (go_at_call 64;((with_reducible refine VC.out.mono ?_);rintro e w9 ⟨rfl,hb9⟩;have HB9:=Lh (BW.out.then_ hb9);have BK9:=Lh (BK.out.stay hb9);clear hb9))
    go_ret;exact tInt_mk E2.out HB9.out
  ·have FZ2:Hid (firstE (c.fs.map fieldE)=0):=Lh (zero_all (k:=j) (by rw [HK.out];omega) FZ.out);have E2:Hid (validE c=if c.bs.any (fun b=>bad b.nm)=true then 7 else if (dupB (c.fs.map Fld.nm)||dupB (c.bs.map Bk.nm))=true then 8 else 0):=Lh (by rw [E.out,if_neg (by simp),if_neg (by rw [FZ2.out];simp)]);clear E FZ FZ2;go_wp2;obtain⟨wa,rfl⟩:∃ x,x=wr:=⟨_,rfl⟩;go_loopw [5] (fun i wr=>∃ j:Nat,j≤M∧i=.int .i64 j∧Hid ((c.bs.take j).any (fun b=>bad b.nm)=false)∧Hid (Below w.heap.size w wr)∧Hid (Blk wr w.heap.size [.string c.nm,.string c.par,.slice pf K cf,.slice pb M cb])) (fun i _=>M - (intOf i).toNat)
   case atStart=>exact⟨0,Nat.zero_le _,rfl,Lh rfl,BW,BK⟩
   case round =>
    clear k2 k3 BW BK hj hlt;obtain⟨j,hj,rfl,FZ,BW,BK⟩:=hrel;have k2:=BK.out.c 2 _ rfl;have k3:=BK.out.c 3 _ rfl;by_cases hlt:j<M
    ·obtain⟨f,hf⟩:∃ f,c.bs[j]? = some f:=⟨_,List.getElem?_eq_getElem (by rw [HM.out];exact hlt)⟩;obtain⟨b,off,pi,ci,rfl,hb,f0,f1,hsz,_⟩:=(RB.out.under (BW.out.mono hN)).bk hf;have VC:=Lh (isNmR_any f.nm wr hsz);have HFF:=Lh hf;clear hf hb;cases hz:bad f.nm
     ·have FZ2:=Lh (any_next (q:=fun b:Bk=>bad b.nm) HFF.out hz FZ.out);rw [hz] at VC;clear hz;go_wp2_with (go_at_call 63;((with_reducible refine VC.out.mono ?_);rintro e w9 ⟨rfl,hb9⟩;have HB9:=Lh (BW.out.then_ hb9);have BK9:=Lh (BK.out.stay hb9);clear hb9))
      go_roundw
      case rel=>exact⟨j+1,by omega,by go_num,FZ2,HB9,BK9⟩
      case measure=>simp [intOf];omega
     ·have E3:Hid (7=validE c):=Lh (by rw [E2.out,if_pos (any_at (q:=fun b:Bk=>bad b.nm) HFF.out hz)]);rw [hz] at VC;clear hz;go_wp2_with (go_at_call 63;((with_reducible refine VC.out.mono ?_);rintro e w9 ⟨rfl,hb9⟩;have HB9:=Lh (BW.out.then_ hb9);have BK9:=Lh (BK.out.stay hb9);clear hb9))
      go_ret;exact tInt_mk E3.out HB9.out
    ·have FZ2:Hid (c.bs.any (fun b=>bad b.nm)=false):=Lh (by have:=FZ.out;rw [List.take_of_length_le (by rw [HM.out];omega)] at this;exact this);have E3:Hid (validE c=if (dupB (c.fs.map Fld.nm)||dupB (c.bs.map Bk.nm))=true then 8 else 0):=Lh (by rw [E2.out,FZ2.out];rfl);clear E2 FZ FZ2;go_wp2;obtain⟨wb,rfl⟩:∃ x,x=wr:=⟨_,rfl⟩;go_loopw [6] (fun i wr=>∃ j:Nat,j≤K∧i=.int .i64 j∧Hid (dupB ((c.fs.map Fld.nm).take j)=false)∧Hid (Below w.heap.size w wr)∧Hid (Blk wr w.heap.size [.string c.nm,.string c.par,.slice pf K cf,.slice pb M cb])) (fun i _=>K - (intOf i).toNat)
     case atStart=>exact⟨0,Nat.zero_le _,rfl,Lh rfl,BW,BK⟩
     case round =>
      clear k2 k3 BW BK hj hlt;obtain⟨j,hj,rfl,FZ,BW,BK⟩:=hrel;have k2:=BK.out.c 2 _ rfl;have k3:=BK.out.c 3 _ rfl;by_cases hlt:j<K
      ·obtain⟨f,hf⟩:∃ f,c.fs[j]? = some f:=⟨_,List.getElem?_eq_getElem (by rw [HK.out];exact hlt)⟩;obtain⟨b,off,rfl,hb,f0,f1,f2,f3,f4,hsz⟩:=(RF.out.under (BW.out.mono hN)).fd hf;have VC:Hid (∀ W,Below wr.heap.size wr W→Calls Tryz.prog 65 #[.slice (some ⟨b,off,none⟩) j cf,.string f.nm] W fun e w'=>e=.returned (.bool ((c.fs.take j).any (fun a=>same a.nm f.nm)))∧W=w'):=Lh (fun W hW=>by
        have:=field_any (c.fs.take j) f.nm _ _ _ N W (by have:=(RF.out.under ((BW.out.then_ hW).mono hN)).take j (by rw [List.length_map,HK.out];exact hj);rw [←List.map_take] at this;exact this);rw [take_len HK.out hj] at this;exact this)
       have HFF:=Lh hf;clear hf hb;cases hz:(c.fs.take j).any (fun a=>same a.nm f.nm)
       ·have FZ2:=Lh (dup_next (f:=Fld.nm) HFF.out hz FZ.out);rw [hz] at VC;clear hz;go_wp2;go_quiet ((go_at_call 65;exact quietL (VC.out _ dB)))
        go_wp2;go_roundw
        case rel=>exact⟨j+1,by omega,by go_num,FZ2,Lh (drewB BW.out),Lh (BK.out.stay dB)⟩
        case measure=>simp [intOf];omega
       ·have E4:Hid (8=validE c):=Lh (by rw [E3.out,dup_of_any (f:=Fld.nm) HFF.out hz];rfl);rw [hz] at VC;clear hz;go_wp2;go_quiet ((go_at_call 65;exact quietL (VC.out _ dB)))
        go_wp2;go_ret;exact tInt_mk E4.out (drewB BW.out)
      ·have FZ2:Hid (dupB (c.fs.map Fld.nm)=false):=Lh (dup_all (j:=j) (by rw [List.length_map,HK.out];omega) FZ.out);have E4:Hid (validE c=if dupB (c.bs.map Bk.nm)=true then 8 else 0):=Lh (by rw [E3.out,FZ2.out];rfl);clear E3 FZ FZ2;go_wp2;obtain⟨wc,rfl⟩:∃ x,x=wr:=⟨_,rfl⟩;go_loopw [7] (fun i wr=>∃ j:Nat,j≤M∧i=.int .i64 j∧Hid (dupB ((c.bs.map Bk.nm).take j)=false)∧Hid (Below w.heap.size w wr)∧Hid (Blk wr w.heap.size [.string c.nm,.string c.par,.slice pf K cf,.slice pb M cb])) (fun i _=>M - (intOf i).toNat)
       case atStart=>exact⟨0,Nat.zero_le _,rfl,Lh rfl,BW,BK⟩
       case round =>
        clear k2 k3 BW BK hj hlt;obtain⟨j,hj,rfl,FZ,BW,BK⟩:=hrel;have k2:=BK.out.c 2 _ rfl;have k3:=BK.out.c 3 _ rfl;by_cases hlt:j<M
        ·obtain⟨f,hf⟩:∃ f,c.bs[j]? = some f:=⟨_,List.getElem?_eq_getElem (by rw [HM.out];exact hlt)⟩;obtain⟨b,off,pi,ci,rfl,hb,f0,f1,hsz,_⟩:=(RB.out.under (BW.out.mono hN)).bk hf;obtain⟨q,hq⟩:∃ q,idxI (plc (c.bs.take j) f.nm)=q:=⟨_,rfl⟩;have hqa:decide (0≤q)=(c.bs.take j).any (fun a=>same a.nm f.nm):=(by rw [←hq];exact idxI_any _ _);have VC:Hid (∀ W,Below wr.heap.size wr W→Calls Tryz.prog 66 #[.slice (some ⟨b,off,none⟩) j cb,.string f.nm] W fun e w'=>e=.returned (.int .i64 q)∧W=w'):=Lh (fun W hW=>by
          have:=block_any (c.bs.take j) f.nm _ _ _ N W (by have:=(RB.out.under ((BW.out.then_ hW).mono hN)).take j (by rw [List.length_map,HM.out];exact hj);rw [←List.map_take] at this;exact this);rw [take_len HM.out hj,hq] at this;exact this)
         have HFF:=Lh hf;clear hf hb hq;cases hz:(c.bs.take j).any (fun a=>same a.nm f.nm)
         ·have FZ2:=Lh (dup_next (f:=Bk.nm) HFF.out hz FZ.out);rw [hz] at hqa;have hq0:¬ 0≤q:=of_decide_eq_false hqa;clear hz;go_wp2;go_quiet ((go_at_call 66;exact quietL (VC.out _ dB)))
          go_wp2;go_roundw
          case rel=>exact⟨j+1,by omega,by go_num,FZ2,Lh (drewB BW.out),Lh (BK.out.stay dB)⟩
          case measure=>simp [intOf];omega
         ·have E5:Hid (8=validE c):=Lh (by rw [E4.out,dup_of_any (f:=Bk.nm) HFF.out hz];rfl);rw [hz] at hqa;have hq0:0≤q:=of_decide_eq_true hqa;clear hz;go_wp2;go_quiet ((go_at_call 66;exact quietL (VC.out _ dB)))
          go_wp2;go_ret;exact tInt_mk E5.out (drewB BW.out)
        ·have FZ2:Hid (dupB (c.bs.map Bk.nm)=false):=Lh (dup_all (j:=j) (by rw [List.length_map,HM.out];omega) FZ.out);have E5:Hid (0=validE c):=Lh (by rw [E4.out,FZ2.out];rfl);clear E4 FZ FZ2;go_wp2;go_ret;exact tInt_mk E5.out BW.out
theorem validR_31 (c:Cl) (pf:Option Addr) (cf:Nat) (pb:Option Addr) (cb N:Nat) (w:World) (hv:CV (Lo N) w pf cf pb cb c) (h1:bad c.nm=false) (h2:same c.par emp=false) (h3:bad c.par=false) (h4:16<c.fs.length) :
  Calls Tryz.prog 36 #[cv c.nm c.par (.slice pf c.fs.length cf) (.slice pb c.bs.length cb)] w (tInt 2 w):=by
 have NC:Hid (∀ W,Below w.heap.size w W→Calls Tryz.prog 63 #[.string c.nm] W (tBool (!bad c.nm) W)):=(Lh fun W _=>isNmR_any c.nm W hv.nm);have PC:Hid (∀ W,Below w.heap.size w W→Calls Tryz.prog 63 #[.string c.par] W (tBool (!bad c.par) W)):=(Lh fun W _=>isNmR_any c.par W hv.par);obtain⟨_,_,Gf,ef,rf⟩:=hv.fs.rowOf;rw [List.length_map] at ef;cases ef;obtain⟨_,_,Gb,eb,rb⟩:=hv.bs.rowOf;rw [List.length_map] at eb;cases eb;have hlf:=rf.hl;have hlb:=rb.hl;have hcf:=rf.hc;have hcb:=rb.hc;rw [List.length_map] at hlf hlb hcf hcb;simp only [byt] at hlf hlb;have RF:=Lh rf;have RB:=Lh rb;obtain⟨K,hK⟩:∃ K,c.fs.length=K:=⟨_,rfl⟩;obtain⟨M,hM⟩:∃ K,c.bs.length=K:=⟨_,rfl⟩;have HK:=Lh hK;have HM:=Lh hM;rw [hK] at hlf hcf ⊢;rw [hM] at hlb hcb ⊢;have F0:=Blk.new w [.string c.nm,.string c.par,.slice pf K cf,.slice pb M cb] 32;have hb0:=ba w (.cells #[.string c.nm,.string c.par,.slice pf K cf,.slice pb M cb] 32);have HF:=Lh F0;have HB0:=Lh hb0;have c0:=F0.c 0 _ rfl;have c1:=F0.c 1 _ rfl;have c2:=F0.c 2 _ rfl;have c3:=F0.c 3 _ rfl;clear F0 hb0 hv rf rb hK hM;have e1:=same_nil h2;rw [h1] at NC;rw [h3] at PC;have d1:decide ((16:Int)<K)=true:=decide_eq_true (by have:=HK.out;omega);clear h1 h2 h3 h4
 go_enter Tryz.func36,Tryz.ntmps36
 go_wp2_with (first
  |(go_at_call 63;((with_reducible refine (NC.out _ HB0.out).mono ?_);rintro e w1 ⟨rfl,hb⟩;have HB1:=Lh (HB0.out.then_ hb);have G:=HF.out.stay hb;(try clear c0);(try clear c1);(try clear c2);(try clear c3);have c0:=G.c 0 _ rfl;have c1:=G.c 1 _ rfl;have c2:=G.c 2 _ rfl;have c3:=G.c 3 _ rfl;have HG1:=Lh G;clear hb G))
  |(go_at_call 63;((with_reducible refine (PC.out _ HB1.out).mono ?_);rintro e w2 ⟨rfl,hb⟩;have HB2:=Lh (HB1.out.then_ hb);have G:=HG1.out.stay hb;(try clear c0);(try clear c1);(try clear c2);(try clear c3);have c0:=G.c 0 _ rfl;have c1:=G.c 1 _ rfl;have c2:=G.c 2 _ rfl;have c3:=G.c 3 _ rfl;have HG2:=Lh G;clear hb G)))
 go_ret;exact⟨rfl,HB2.out⟩
theorem validR_51 (c:Cl) (pf:Option Addr) (cf:Nat) (pb:Option Addr) (cb N:Nat) (w:World) (hv:CV (Lo N) w pf cf pb cb c) (h1:bad c.nm=false) (h2:same c.par emp=false) (h3:bad c.par=false) (h4:¬ 16<c.fs.length) (h5:16<c.bs.length) :
  Calls Tryz.prog 36 #[cv c.nm c.par (.slice pf c.fs.length cf) (.slice pb c.bs.length cb)] w (tInt 2 w):=by
 have NC:Hid (∀ W,Below w.heap.size w W→Calls Tryz.prog 63 #[.string c.nm] W (tBool (!bad c.nm) W)):=(Lh fun W _=>isNmR_any c.nm W hv.nm);have PC:Hid (∀ W,Below w.heap.size w W→Calls Tryz.prog 63 #[.string c.par] W (tBool (!bad c.par) W)):=(Lh fun W _=>isNmR_any c.par W hv.par);obtain⟨_,_,Gf,ef,rf⟩:=hv.fs.rowOf;rw [List.length_map] at ef;cases ef;obtain⟨_,_,Gb,eb,rb⟩:=hv.bs.rowOf;rw [List.length_map] at eb;cases eb;have hlf:=rf.hl;have hlb:=rb.hl;have hcf:=rf.hc;have hcb:=rb.hc;rw [List.length_map] at hlf hlb hcf hcb;simp only [byt] at hlf hlb;have RF:=Lh rf;have RB:=Lh rb;obtain⟨K,hK⟩:∃ K,c.fs.length=K:=⟨_,rfl⟩;obtain⟨M,hM⟩:∃ K,c.bs.length=K:=⟨_,rfl⟩;have HK:=Lh hK;have HM:=Lh hM;rw [hK] at hlf hcf ⊢;rw [hM] at hlb hcb ⊢;have F0:=Blk.new w [.string c.nm,.string c.par,.slice pf K cf,.slice pb M cb] 32;have hb0:=ba w (.cells #[.string c.nm,.string c.par,.slice pf K cf,.slice pb M cb] 32);have HF:=Lh F0;have HB0:=Lh hb0;have c0:=F0.c 0 _ rfl;have c1:=F0.c 1 _ rfl;have c2:=F0.c 2 _ rfl;have c3:=F0.c 3 _ rfl;clear F0 hb0 hv rf rb hK hM;have e1:=same_nil h2;rw [h1] at NC;rw [h3] at PC;have d1:decide ((16:Int)<K)=false:=decide_eq_false (by have:=HK.out;omega);have d2:decide ((16:Int)<M)=true:=decide_eq_true (by have:=HM.out;omega);clear h1 h2 h3 h4 h5
 go_enter Tryz.func36,Tryz.ntmps36
 go_wp2_with (first
  |(go_at_call 63;((with_reducible refine (NC.out _ HB0.out).mono ?_);rintro e w1 ⟨rfl,hb⟩;have HB1:=Lh (HB0.out.then_ hb);have G:=HF.out.stay hb;(try clear c0);(try clear c1);(try clear c2);(try clear c3);have c0:=G.c 0 _ rfl;have c1:=G.c 1 _ rfl;have c2:=G.c 2 _ rfl;have c3:=G.c 3 _ rfl;have HG1:=Lh G;clear hb G))
  |(go_at_call 63;((with_reducible refine (PC.out _ HB1.out).mono ?_);rintro e w2 ⟨rfl,hb⟩;have HB2:=Lh (HB1.out.then_ hb);have G:=HG1.out.stay hb;(try clear c0);(try clear c1);(try clear c2);(try clear c3);have c0:=G.c 0 _ rfl;have c1:=G.c 1 _ rfl;have c2:=G.c 2 _ rfl;have c3:=G.c 3 _ rfl;have HG2:=Lh G;clear hb G)))
 go_ret;exact⟨rfl,HB2.out⟩
theorem validR_41 (c:Cl) (pf:Option Addr) (cf:Nat) (pb:Option Addr) (cb N:Nat) (w:World) (hv:CV (Lo N) w pf cf pb cb c) (hN:N≤w.heap.size) (h1:bad c.nm=false) (h2:same c.par emp=false) (h3:bad c.par=false) (h4:¬ 16<c.fs.length) (h5:¬ 16<c.bs.length) :
  Calls Tryz.prog 36 #[cv c.nm c.par (.slice pf c.fs.length cf) (.slice pb c.bs.length cb)] w (tInt (validE c) w):=by
 have NC:Hid (∀ W,Below w.heap.size w W→Calls Tryz.prog 63 #[.string c.nm] W (tBool (!bad c.nm) W)):=(Lh fun W _=>isNmR_any c.nm W hv.nm);have PC:Hid (∀ W,Below w.heap.size w W→Calls Tryz.prog 63 #[.string c.par] W (tBool (!bad c.par) W)):=(Lh fun W _=>isNmR_any c.par W hv.par);obtain⟨_,_,Gf,ef,rf⟩:=hv.fs.rowOf;rw [List.length_map] at ef;cases ef;obtain⟨_,_,Gb,eb,rb⟩:=hv.bs.rowOf;rw [List.length_map] at eb;cases eb;have hlf:=rf.hl;have hlb:=rb.hl;have hcf:=rf.hc;have hcb:=rb.hc;rw [List.length_map] at hlf hlb hcf hcb;simp only [byt] at hlf hlb;have RF:=Lh rf;have RB:=Lh rb;obtain⟨K,hK⟩:∃ K,c.fs.length=K:=⟨_,rfl⟩;obtain⟨M,hM⟩:∃ K,c.bs.length=K:=⟨_,rfl⟩;have HK:=Lh hK;have HM:=Lh hM;rw [hK] at hlf hcf ⊢;rw [hM] at hlb hcb ⊢;have F0:=Blk.new w [.string c.nm,.string c.par,.slice pf K cf,.slice pb M cb] 32;have hb0:=ba w (.cells #[.string c.nm,.string c.par,.slice pf K cf,.slice pb M cb] 32);have HF:=Lh F0;have HB0:=Lh hb0;have c0:=F0.c 0 _ rfl;have c1:=F0.c 1 _ rfl;have c2:=F0.c 2 _ rfl;have c3:=F0.c 3 _ rfl;clear F0 hb0 hv rf rb hK hM;have e1:=same_nil h2;rw [h1] at NC;rw [h3] at PC;have E:=Lh (validE_pre h1 (.inr h3));have h6:large c=false:=(by unfold large;rw [decide_eq_false h4,decide_eq_false h5];rfl);rw [h6] at E;have d1:decide ((16:Int)<K)=false:=decide_eq_false (by have:=HK.out;omega);have d2:decide ((16:Int)<M)=false:=decide_eq_false (by have:=HM.out;omega);clear h1 h2 h3 h4 h5 h6
 go_enter Tryz.func36,Tryz.ntmps36
 go_wp2_with (first
  |(go_at_call 63;((with_reducible refine (NC.out _ HB0.out).mono ?_);rintro e w1 ⟨rfl,hb⟩;have HB1:=Lh (HB0.out.then_ hb);have G:=HF.out.stay hb;(try clear c0);(try clear c1);(try clear c2);(try clear c3);have c0:=G.c 0 _ rfl;have c1:=G.c 1 _ rfl;have c2:=G.c 2 _ rfl;have c3:=G.c 3 _ rfl;have HG1:=Lh G;clear hb G))
  |(go_at_call 63;((with_reducible refine (PC.out _ HB1.out).mono ?_);rintro e w2 ⟨rfl,hb⟩;have HB2:=Lh (HB1.out.then_ hb);have G:=HG1.out.stay hb;(try clear c0);(try clear c1);(try clear c2);(try clear c3);have c0:=G.c 0 _ rfl;have c1:=G.c 1 _ rfl;have c2:=G.c 2 _ rfl;have c3:=G.c 3 _ rfl;have HG2:=Lh G;clear hb G)))
 go_loopw [3] (fun i wr=>∃ j:Nat,j≤K∧i=.int .i64 j∧Hid (∀ x∈(c.fs.map fieldE).take j,x=0)∧Hid (Below w.heap.size w wr)∧Hid (Blk wr w.heap.size [.string c.nm,.string c.par,.slice pf K cf,.slice pb M cb])) (fun i _=>K - (intOf i).toNat)
 case atStart=>exact⟨0,Nat.zero_le _,rfl,Lh (by simp),HB2,HG2⟩
 case round =>
  obtain⟨j,hj,rfl,FZ,BW,BK⟩:=hrel
  (try clear c0);(try clear c1);(try clear c2);(try clear c3);(try clear d1);(try clear d2)
  have k2:=BK.out.c 2 _ rfl;have k3:=BK.out.c 3 _ rfl;by_cases hlt:j<K
  ·obtain⟨f,hf⟩:∃ f,c.fs[j]? = some f:=⟨_,List.getElem?_eq_getElem (by rw [HK.out];exact hlt)⟩;obtain⟨b,off,rfl,hb,f0,f1,f2,f3,f4,hsz⟩:=(RF.out.under (BW.out.mono hN)).fd hf;have VC:=Lh (valFieldR_any f.nm f.wd f.sz f.md f.ini wr hsz);have HFF:=Lh hf;clear hf hb;by_cases hz:fieldE f=0
   ·have FZ2:=Lh (first_next HFF.out FZ.out hz);rw [hz] at VC;clear hz;go_wp2_with (go_at_call 64;((with_reducible refine VC.out.mono ?_);rintro e w9 ⟨rfl,hb9⟩;have HB9:=Lh (BW.out.then_ hb9);have BK9:=Lh (BK.out.stay hb9);clear hb9))
    go_roundw
    case rel=>exact⟨j+1,by omega,by go_num,FZ2,HB9,BK9⟩
    case measure=>simp [intOf];omega
   ·have E2:Hid (fieldE f=validE c):=Lh (by have:=first_here HFF.out FZ.out hz;rw [E.out,if_neg (by simp),if_pos (by rw [this];exact hz),this]);have hze:(fieldE f == 0)=false:=(by rw [beq_eq_false_iff_ne];exact hz);have hzn:¬ fieldE f=0:=hz;rw [show (Fld.mk f.nm f.wd f.sz f.md f.ini)=f from rfl] at VC;generalize fieldE f=q at *
    clear hz;go_wp2_with (go_at_call 64;((with_reducible refine VC.out.mono ?_);rintro e w9 ⟨rfl,hb9⟩;have HB9:=Lh (BW.out.then_ hb9);have BK9:=Lh (BK.out.stay hb9);clear hb9))
    go_ret;exact tInt_mk E2.out HB9.out
  ·have FZ2:Hid (firstE (c.fs.map fieldE)=0):=Lh (zero_all (k:=j) (by rw [HK.out];omega) FZ.out);have E2:Hid (validE c=if c.bs.any (fun b=>bad b.nm)=true then 7 else if (dupB (c.fs.map Fld.nm)||dupB (c.bs.map Bk.nm))=true then 8 else 0):=Lh (by rw [E.out,if_neg (by simp),if_neg (by rw [FZ2.out];simp)]);clear E FZ FZ2;go_wp2;obtain⟨wa,rfl⟩:∃ x,x=wr:=⟨_,rfl⟩;go_loopw [5] (fun i wr=>∃ j:Nat,j≤M∧i=.int .i64 j∧Hid ((c.bs.take j).any (fun b=>bad b.nm)=false)∧Hid (Below w.heap.size w wr)∧Hid (Blk wr w.heap.size [.string c.nm,.string c.par,.slice pf K cf,.slice pb M cb])) (fun i _=>M - (intOf i).toNat)
   case atStart=>exact⟨0,Nat.zero_le _,rfl,Lh rfl,BW,BK⟩
   case round =>
    clear k2 k3 BW BK hj hlt;obtain⟨j,hj,rfl,FZ,BW,BK⟩:=hrel;have k2:=BK.out.c 2 _ rfl;have k3:=BK.out.c 3 _ rfl;by_cases hlt:j<M
    ·obtain⟨f,hf⟩:∃ f,c.bs[j]? = some f:=⟨_,List.getElem?_eq_getElem (by rw [HM.out];exact hlt)⟩;obtain⟨b,off,pi,ci,rfl,hb,f0,f1,hsz,_⟩:=(RB.out.under (BW.out.mono hN)).bk hf;have VC:=Lh (isNmR_any f.nm wr hsz);have HFF:=Lh hf;clear hf hb;cases hz:bad f.nm
     ·have FZ2:=Lh (any_next (q:=fun b:Bk=>bad b.nm) HFF.out hz FZ.out);rw [hz] at VC;clear hz;go_wp2_with (go_at_call 63;((with_reducible refine VC.out.mono ?_);rintro e w9 ⟨rfl,hb9⟩;have HB9:=Lh (BW.out.then_ hb9);have BK9:=Lh (BK.out.stay hb9);clear hb9))
      go_roundw
      case rel=>exact⟨j+1,by omega,by go_num,FZ2,HB9,BK9⟩
      case measure=>simp [intOf];omega
     ·have E3:Hid (7=validE c):=Lh (by rw [E2.out,if_pos (any_at (q:=fun b:Bk=>bad b.nm) HFF.out hz)]);rw [hz] at VC;clear hz;go_wp2_with (go_at_call 63;((with_reducible refine VC.out.mono ?_);rintro e w9 ⟨rfl,hb9⟩;have HB9:=Lh (BW.out.then_ hb9);have BK9:=Lh (BK.out.stay hb9);clear hb9))
      go_ret;exact tInt_mk E3.out HB9.out
    ·have FZ2:Hid (c.bs.any (fun b=>bad b.nm)=false):=Lh (by have:=FZ.out;rw [List.take_of_length_le (by rw [HM.out];omega)] at this;exact this);have E3:Hid (validE c=if (dupB (c.fs.map Fld.nm)||dupB (c.bs.map Bk.nm))=true then 8 else 0):=Lh (by rw [E2.out,FZ2.out];rfl);clear E2 FZ FZ2;go_wp2;obtain⟨wb,rfl⟩:∃ x,x=wr:=⟨_,rfl⟩;go_loopw [6] (fun i wr=>∃ j:Nat,j≤K∧i=.int .i64 j∧Hid (dupB ((c.fs.map Fld.nm).take j)=false)∧Hid (Below w.heap.size w wr)∧Hid (Blk wr w.heap.size [.string c.nm,.string c.par,.slice pf K cf,.slice pb M cb])) (fun i _=>K - (intOf i).toNat)
     case atStart=>exact⟨0,Nat.zero_le _,rfl,Lh rfl,BW,BK⟩
     case round =>
      clear k2 k3 BW BK hj hlt;obtain⟨j,hj,rfl,FZ,BW,BK⟩:=hrel;have k2:=BK.out.c 2 _ rfl;have k3:=BK.out.c 3 _ rfl;by_cases hlt:j<K
      ·obtain⟨f,hf⟩:∃ f,c.fs[j]? = some f:=⟨_,List.getElem?_eq_getElem (by rw [HK.out];exact hlt)⟩;obtain⟨b,off,rfl,hb,f0,f1,f2,f3,f4,hsz⟩:=(RF.out.under (BW.out.mono hN)).fd hf;have VC:Hid (∀ W,Below wr.heap.size wr W→Calls Tryz.prog 65 #[.slice (some ⟨b,off,none⟩) j cf,.string f.nm] W fun e w'=>e=.returned (.bool ((c.fs.take j).any (fun a=>same a.nm f.nm)))∧W=w'):=Lh (fun W hW=>by
        have:=field_any (c.fs.take j) f.nm _ _ _ N W (by have:=(RF.out.under ((BW.out.then_ hW).mono hN)).take j (by rw [List.length_map,HK.out];exact hj);rw [←List.map_take] at this;exact this);rw [take_len HK.out hj] at this;exact this)
       have HFF:=Lh hf;clear hf hb;cases hz:(c.fs.take j).any (fun a=>same a.nm f.nm)
       ·have FZ2:=Lh (dup_next (f:=Fld.nm) HFF.out hz FZ.out);rw [hz] at VC;clear hz;go_wp2;go_quiet ((go_at_call 65;exact quietL (VC.out _ dB)))
        go_wp2;go_roundw
        case rel=>exact⟨j+1,by omega,by go_num,FZ2,Lh (drewB BW.out),Lh (BK.out.stay dB)⟩
        case measure=>simp [intOf];omega
       ·have E4:Hid (8=validE c):=Lh (by rw [E3.out,dup_of_any (f:=Fld.nm) HFF.out hz];rfl);rw [hz] at VC;clear hz;go_wp2;go_quiet ((go_at_call 65;exact quietL (VC.out _ dB)))
        go_wp2;go_ret;exact tInt_mk E4.out (drewB BW.out)
      ·have FZ2:Hid (dupB (c.fs.map Fld.nm)=false):=Lh (dup_all (j:=j) (by rw [List.length_map,HK.out];omega) FZ.out);have E4:Hid (validE c=if dupB (c.bs.map Bk.nm)=true then 8 else 0):=Lh (by rw [E3.out,FZ2.out];rfl);clear E3 FZ FZ2;go_wp2;obtain⟨wc,rfl⟩:∃ x,x=wr:=⟨_,rfl⟩;go_loopw [7] (fun i wr=>∃ j:Nat,j≤M∧i=.int .i64 j∧Hid (dupB ((c.bs.map Bk.nm).take j)=false)∧Hid (Below w.heap.size w wr)∧Hid (Blk wr w.heap.size [.string c.nm,.string c.par,.slice pf K cf,.slice pb M cb])) (fun i _=>M - (intOf i).toNat)
       case atStart=>exact⟨0,Nat.zero_le _,rfl,Lh rfl,BW,BK⟩
       case round =>
        clear k2 k3 BW BK hj hlt;obtain⟨j,hj,rfl,FZ,BW,BK⟩:=hrel;have k2:=BK.out.c 2 _ rfl;have k3:=BK.out.c 3 _ rfl;by_cases hlt:j<M
        ·obtain⟨f,hf⟩:∃ f,c.bs[j]? = some f:=⟨_,List.getElem?_eq_getElem (by rw [HM.out];exact hlt)⟩;obtain⟨b,off,pi,ci,rfl,hb,f0,f1,hsz,_⟩:=(RB.out.under (BW.out.mono hN)).bk hf;obtain⟨q,hq⟩:∃ q,idxI (plc (c.bs.take j) f.nm)=q:=⟨_,rfl⟩;have hqa:decide (0≤q)=(c.bs.take j).any (fun a=>same a.nm f.nm):=(by rw [←hq];exact idxI_any _ _);have VC:Hid (∀ W,Below wr.heap.size wr W→Calls Tryz.prog 66 #[.slice (some ⟨b,off,none⟩) j cb,.string f.nm] W fun e w'=>e=.returned (.int .i64 q)∧W=w'):=Lh (fun W hW=>by
          have:=block_any (c.bs.take j) f.nm _ _ _ N W (by have:=(RB.out.under ((BW.out.then_ hW).mono hN)).take j (by rw [List.length_map,HM.out];exact hj);rw [←List.map_take] at this;exact this);rw [take_len HM.out hj,hq] at this;exact this)
         have HFF:=Lh hf;clear hf hb hq;cases hz:(c.bs.take j).any (fun a=>same a.nm f.nm)
         ·have FZ2:=Lh (dup_next (f:=Bk.nm) HFF.out hz FZ.out);rw [hz] at hqa;have hq0:¬ 0≤q:=of_decide_eq_false hqa;clear hz;go_wp2;go_quiet ((go_at_call 66;exact quietL (VC.out _ dB)))
          go_wp2;go_roundw
          case rel=>exact⟨j+1,by omega,by go_num,FZ2,Lh (drewB BW.out),Lh (BK.out.stay dB)⟩
          case measure=>simp [intOf];omega
         ·have E5:Hid (8=validE c):=Lh (by rw [E4.out,dup_of_any (f:=Bk.nm) HFF.out hz];rfl);rw [hz] at hqa;have hq0:0≤q:=of_decide_eq_true hqa;clear hz;go_wp2;go_quiet ((go_at_call 66;exact quietL (VC.out _ dB)))
          go_wp2;go_ret;exact tInt_mk E5.out (drewB BW.out)
        ·have FZ2:Hid (dupB (c.bs.map Bk.nm)=false):=Lh (dup_all (j:=j) (by rw [List.length_map,HM.out];omega) FZ.out);have E5:Hid (0=validE c):=Lh (by rw [E4.out,FZ2.out];rfl);clear E4 FZ FZ2;go_wp2;go_ret;exact tInt_mk E5.out BW.out
theorem validR_any (c:Cl) (pf:Option Addr) (cf:Nat) (pb:Option Addr) (cb N:Nat) (w:World) (hv:CV (Lo N) w pf cf pb cb c) (hN:N≤w.heap.size) :
  Calls Tryz.prog 36 #[cv c.nm c.par (.slice pf c.fs.length cf) (.slice pb c.bs.length cb)] w (tInt (validE c) w):=by
 have hlg:(16<c.fs.length∨16<c.bs.length)→large c=true:=by
  intro h;unfold large;rcases h with h | h
  ·rw [decide_eq_true h];rfl
  ·rw [decide_eq_true h,Bool.or_true]
 cases h1:bad c.nm
 ·cases h2:same c.par emp
  ·cases h3:bad c.par
   ·by_cases h4:16<c.fs.length
    ·rw [validE_pre h1 (.inr h3),if_pos (hlg (.inl h4))];exact validR_31 c pf cf pb cb N w hv h1 h2 h3 h4
    ·by_cases h5:16<c.bs.length
     ·rw [validE_pre h1 (.inr h3),if_pos (hlg (.inr h5))];exact validR_51 c pf cf pb cb N w hv h1 h2 h3 h4 h5
     ·exact validR_41 c pf cf pb cb N w hv hN h1 h2 h3 h4 h5
   ·rw [validE_2 h2 h3];exact validR_2 c pf cf pb cb N w hv h1 h2 h3
  ·by_cases h4:16<c.fs.length
   ·rw [validE_pre h1 (.inl h2),if_pos (hlg (.inl h4))];exact validR_30 c pf cf pb cb N w hv h1 h2 h4
   ·by_cases h5:16<c.bs.length
    ·rw [validE_pre h1 (.inl h2),if_pos (hlg (.inr h5))];exact validR_50 c pf cf pb cb N w hv h1 h2 h4 h5
    ·exact validR_40 c pf cf pb cb N w hv hN h1 h2 h4 h5
 ·rw [validE_1 h1];exact validR_1 c pf cf pb cb N w hv h1
end ClW
end Go.Proofs.YtihnejaopejbgaaGreatDoor
