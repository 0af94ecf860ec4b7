/-
  Laws that the card uses; no conditions beside those that each states (CtRefS CtLawB).
-/
import Derived.Test.YtihnejaopejbgaaGreatDoorP45
import Derived.Test.YtihnejaopejbgaaGreatDoorP56
set_option maxRecDepth 100000
set_option maxHeartbeats 16000000
namespace Go.Proofs.YtihnejaopejbgaaGreatDoor
namespace CtR
open Go Go.RowKit Go.Shelf NumM LexW ExW ItW LexM ExM EtM EtW ItM CtM CtW
open ClM (Fld fieldE validE)
open ClW (At RowA Lo CV)
theorem joinN_snoc:∀ (l:List (List UInt8)) (x:List UInt8),l≠[]→Lib.join (l++[x]) [10]=Lib.join l [10]++10::x
 | [],_,h=>absurd rfl h
 | [a],x,_=>by rw [List.singleton_append,Lib.join_cons,Lib.join_one];simp [Lib.joinTail]
 | a::b::r,x,_=>by
  have e:∀ (t u:List UInt8) (r:List (List UInt8)),Lib.join (t::u::r) [10]=t++10::Lib.join (u::r) [10]:=(fun t u r=>by rw [Lib.join_cons,Lib.join_cons];simp [Lib.joinTail]);rw [List.cons_append,List.cons_append,e,e,←List.cons_append,joinN_snoc (b::r) x (by simp)];simp
theorem sourceR_any (w0:World) (ks:List Kl) (v:Value) (hx:KsA w0.heap.size w0 v ks) (hz:bzKs ks≤2000000) (h100:ks.length≤100) (ht:TabE w0) (w:World) (hW:Below w0.heap.size w0 w) :
  Calls Tryz.prog 18 #[v] w (tS (srcT ks) w):=by
 obtain⟨p,cap,pf,cf,pk,ck,rfl,_,hcap,hka,hx⟩:=hx;have HKX:=Lh hx;have HKA:=Lh hka;have HT:=Lh ht;have HW:=Lh hW;have HZ:Hid (∀ k∈ks,bzK k≤2000000):=Lh fun k hk=>by
  have:bzK k∈ks.map bzK:=List.mem_map.2 ⟨k,hk,rfl⟩;have:=sum_mem this;unfold bzKs at hz;omega
 have ES:Hid (srcT ks=if ks.all okK=true then Lib.join (ks.map clsT) [10] else []):=Lh rfl;obtain⟨n,hnn⟩:∃ n,ks.length=n:=⟨_,rfl⟩;have HN:=Lh hnn;rw [hnn] at hcap h100 ⊢;have h47:n≤140737488351232:=(by omega);have BW0:=Lh (Below.refl w.heap.size w);clear hx hka ht hW hz hnn
 go_enter Tryz.func18,Tryz.ntmps18
 go_wp2;go_loopw [3,4] (fun s i wr=>∃ (j:Nat) (S:ByteArray),j≤n∧i=.int .i64 j∧s=.string S∧S.size≤j*5000000001∧Hid (S=mb (Lib.join ((ks.take j).map clsT) [10]))∧Hid ((ks.take j).all okK=true)∧Hid (Below w.heap.size w wr)) (fun _ i _=>n - (intOf i).toNat)
 case atStart=>exact⟨0,⟨#[]⟩,Nat.zero_le _,rfl,rfl,by decide,Lh (by rw [List.take_zero];rfl),Lh (by rw [List.take_zero];rfl),BW0⟩
 case round =>
  obtain⟨j,S,hj,rfl,rfl,hsz,HS,HA,BX⟩:=hrel;by_cases hlt:j<n
  ·obtain⟨k,hk⟩:∃ k,ks[j]? = some k:=⟨_,List.getElem?_eq_getElem (by rw [HN.out];exact hlt)⟩;obtain⟨b,off,rfl,hb,hcel⟩:=HKX.out (by rw [HN.out];omega);have hmem:=List.mem_of_getElem? hk;have KAk:=HKA.out j k hk;have hzk:=HZ.out k hmem;obtain⟨q0,q1,q2,q3⟩:=hcel j k hk;have BW:Hid (Below w0.heap.size w0 wr):=Lh (HW.out.then_ BX.out);have HC:Hid (∀ W2,Below w0.heap.size w0 W2→W2.cell? ⟨b,off+j*4,none⟩=some (.string k.nm)∧W2.cell? ⟨b,off+j*4+1,none⟩=some (.string k.par)∧W2.cell? ⟨b,off+j*4+2,none⟩=some (.slice (pf j) k.fs.length (cf j))∧W2.cell? ⟨b,off+j*4+3,none⟩=some (.slice (pk j) k.bs.length (ck j))):=Lh fun W2 h2=>by
    have hlow:=low_cells h2;exact⟨hlow _ _ hb _ q0,hlow _ _ hb _ q1,hlow _ _ hb _ q2,hlow _ _ hb _ q3⟩
   obtain⟨d0,d1,d2,d3⟩:=HC.out _ BW.out;have VC:Hid (∀ W2,Below w0.heap.size w0 W2→Calls Tryz.prog 19 #[.agg #[.string k.nm,.string k.par,.slice (pf j) k.fs.length (cf j),.slice (pk j) k.bs.length (ck j)]] W2 (tBool (okK k) W2)):=(Lh fun W2 h2=>okKR_any w0 k _ _ _ _ KAk hzk W2 h2);have PC:Hid (∀ W2,Below w0.heap.size w0 W2→Calls Tryz.prog 16 #[.agg #[.string k.nm,.string k.par,.slice (pf j) k.fs.length (cf j),.slice (pk j) k.bs.length (ck j)]] W2 (tS (klT k) W2)):=(Lh fun W2 h2=>printKR_any w0 k _ _ _ _ KAk hzk HT.out W2 h2);have TKA:(ks.take (j+1)).all okK=((ks.take j).all okK&&okK k):=by
    obtain⟨hj',he⟩:=List.getElem?_eq_some_iff.1 hk;rw [List.take_succ_eq_append_getElem hj',List.all_append,he];simp
   have TKM:(ks.take (j+1)).map clsT=(ks.take j).map clsT++[clsT k]:=by
    obtain⟨hj',he⟩:=List.getElem?_eq_some_iff.1 hk;rw [List.take_succ_eq_append_getElem hj',List.map_append,he];rfl
   cases hok:okK k
   ·have EZ:Hid (srcT ks=[]):=Lh (by
     rw [ES.out,if_neg];intro h;have:=List.all_eq_true.1 h k hmem;rw [hok] at this;cases this)
    rw [hok] at VC;clear hcel q0 q1 q2 q3 KAk hzk hmem hk TKA TKM hok PC;generalize k.nm=nm at *
    generalize k.par=par at *
    generalize k.fs.length=nf at *
    generalize k.bs.length=nk at *
    generalize pf j=pfj at *
    generalize cf j=cfj at *
    generalize pk j=pkj at *
    generalize ck j=ckj at *
    go_wp2_with (go_at_call 19;((with_reducible refine (VC.out _ BW.out).mono ?_);rintro e w3 ⟨rfl,hb⟩;have HX3:=Lh (BX.out.then_ hb);clear hb d0 d1 d2 d3))
    go_ret;exact tS_of (by rw [EZ.out]) HX3.out
   ·have ekT:klT k=clsT k:=(by unfold klT;rw [if_pos hok]);have hln:=cls_len hok hzk;have HA2:Hid ((ks.take (j+1)).all okK=true):=Lh (by rw [TKA,HA.out,hok];rfl);rw [ekT] at PC;rw [hok] at VC;obtain⟨T,hT⟩:∃ T,clsT k=T:=⟨_,rfl⟩;rw [hT] at PC hln TKM;have hlj:(ks.take j).length=j:=(by rw [List.length_take,HN.out];omega);by_cases h0:j=0
    ·subst h0;rw [List.take_zero,List.map_nil,List.nil_append] at TKM;have hS:S=⟨#[]⟩:=(by rw [HS.out];rfl);subst hS;have HT2:Hid (⟨#[]⟩++mb T=mb (Lib.join ((ks.take (0+1)).map clsT) [10])):=Lh (ba_ext (by rw [TKM,Lib.join_one];simp [ByteArray.data_append]));have hsn:(⟨#[]⟩:ByteArray).size+(mb T).size≤(0+1)*5000000001:=(by show 0+T.length≤_;omega);have z1:¬ 9223372036854775807<T.length:=(by omega);simp only [Nat.zero_mul,Nat.add_zero] at HC d0 d1 d2 d3;clear hcel q0 q1 q2 q3 KAk hzk hmem hk TKA TKM hok ekT hT hlj HA;generalize k.nm=nm at *
     generalize k.par=par at *
     generalize k.fs.length=nf at *
     generalize k.bs.length=nk at *
     generalize pf 0=pfj at *
     generalize cf 0=cfj at *
     generalize pk 0=pkj at *
     generalize ck 0=ckj at *
     go_wp2_with (first
      |(go_at_call 19;((with_reducible refine (VC.out _ BW.out).mono ?_);rintro e w3 ⟨rfl,hb⟩;have HX3:=Lh (BW.out.then_ hb);have HX5:=Lh (BX.out.then_ hb);clear hb d0 d1 d2 d3;obtain⟨d0,d1,d2,d3⟩:=HC.out _ HX3.out))
      |(go_at_call 16;((with_reducible refine (PC.out _ HX3.out).mono ?_);rintro e w4 ⟨rfl,hb⟩;have HX4:=Lh (HX5.out.then_ hb);clear hb d0 d1 d2 d3)))
     go_roundw
     case rel=>exact⟨1,⟨#[]⟩++mb T,by omega,rfl,rfl,by rw [ByteArray.size_append];exact hsn,HT2,HA2,HX4⟩
     case measure=>simp [intOf];omega
    ·have HT2:Hid (S++⟨#[10]⟩++mb T=mb (Lib.join ((ks.take (j+1)).map clsT) [10])):=Lh (ba_ext (by rw [TKM,joinN_snoc _ _ (by intro e;have:=congrArg List.length e;rw [List.length_map,hlj] at this;simp at this;omega),HS.out];simp [ByteArray.data_append]));have hsn:S.size+1+(mb T).size≤(j+1)*5000000001:=(by show S.size+1+T.length≤_;omega);have z1:¬ 9223372036854775807<S.size+1:=(by omega);have z2:¬ 9223372036854775807<S.size+1+T.length:=(by have:(mb T).size=T.length:=rfl;omega);have hpos:0<j:=(by omega);clear hcel q0 q1 q2 q3 KAk hzk hmem hk TKA TKM hok ekT hT hlj HA h0;generalize k.nm=nm at *
     generalize k.par=par at *
     generalize k.fs.length=nf at *
     generalize k.bs.length=nk at *
     generalize pf j=pfj at *
     generalize cf j=cfj at *
     generalize pk j=pkj at *
     generalize ck j=ckj at *
     go_wp2_with (first
      |(go_at_call 19;((with_reducible refine (VC.out _ BW.out).mono ?_);rintro e w3 ⟨rfl,hb⟩;have HX3:=Lh (BW.out.then_ hb);have HX5:=Lh (BX.out.then_ hb);clear hb d0 d1 d2 d3;obtain⟨d0,d1,d2,d3⟩:=HC.out _ HX3.out))
      |(go_at_call 16;((with_reducible refine (PC.out _ HX3.out).mono ?_);rintro e w4 ⟨rfl,hb⟩;have HX4:=Lh (HX5.out.then_ hb);clear hb d0 d1 d2 d3)))
     go_roundw
     case rel=>exact⟨j+1,S++⟨#[10]⟩++mb T,by omega,by go_num,rfl,by simp only [ByteArray.size_append];exact hsn,HT2,HA2,HX4⟩
     case measure=>simp [intOf];omega
  ·obtain rfl:j=n:=(by omega);have ht:ks.take j=ks:=List.take_of_length_le (by rw [HN.out];exact Nat.le_refl _);have HE:Hid (S.data.toList=srcT ks):=Lh (by
    have h1:=HS.out;have h2:=HA.out;rw [ht] at h1 h2;rw [ES.out,if_pos h2,h1])
   go_wp2;go_ret;exact tS_of HE.out BX.out
end CtR
namespace CtL
open Go Go.RowKit Go.Shelf NumM LexW ExW ItW LexM ExM EtM EtW ItM CtM CtW CtR
theorem bzKs_take (ks:List Kl) (m:Nat):bzKs (ks.take m)≤bzKs ks:=by
 unfold bzKs;have e:ks=ks.take m++ks.drop m:=(List.take_append_drop m ks).symm
 conv=>rhs;rw [e,List.map_append,List.sum_append]
 omega
theorem source_law (w:World) (l:List Kl) (v:Value) (h:KsA w.heap.size w v l) (hz:bzKs l≤2000000) (ht:TabE w) :
  Calls Tryz.prog 6 #[v] w (tBool true w):=by
 have h0:=h;obtain⟨p,cap,pf,cf,pk,ck,rfl,hl9,hcap,hka,hx⟩:=h;have AC:Hid (∀ W,Below w.heap.size w W→Calls Tryz.prog 12 #[] W (tBool true W)):=(Lh fun W hW=>awake_any W (ht.later hW));obtain⟨n,hn⟩:∃ n,l.length=n:=⟨_,rfl⟩;rw [hn] at h0 hcap hl9 ⊢;by_cases hm:n≤6
 ·have h2:=h0.take n (by omega);have hmin:min (n:Int) 6=n:=(by omega);have hge:n≤cap:=(by omega);have hz2:bzKs (l.take n)≤2000000:=Nat.le_trans (bzKs_take l n) hz;have h6:(l.take n).length≤100:=(by rw [List.length_take];omega);have PC:Hid (∀ W,Below w.heap.size w W→Calls Tryz.prog 17 #[.slice p n cap] W (tS (srcT (l.take n)) W)):=(Lh fun W hW=>sourceP_any w _ _ h2 hz2 h6 ht W hW);have RC:Hid (∀ W,Below w.heap.size w W→Calls Tryz.prog 18 #[.slice p n cap] W (tS (srcT (l.take n)) W)):=(Lh fun W hW=>sourceR_any w _ _ h2 hz2 h6 ht W hW);generalize srcT (l.take n)=T at *
  clear h0 h2 hn ht hx hka hz hz2 h6
  go_enter Tryz.func6,Tryz.ntmps6
  go_wp2_with (first
   |(go_at_call 17;((with_reducible refine (PC.out _ (Below.refl _ _)).mono ?_);rintro e w2 ⟨rfl,hb⟩;have HX1:=Lh ((Below.refl _ _).then_ hb);clear hb))
   |(go_at_call 18;((with_reducible refine (RC.out _ HX1.out).mono ?_);rintro e w3 ⟨rfl,hb⟩;have HX2:=Lh (HX1.out.then_ hb);clear hb))
   |(go_at_call 12;((with_reducible refine (AC.out _ HX2.out).mono ?_);rintro e w4 ⟨rfl,hb⟩;have HX4:=Lh (HX2.out.then_ hb);clear hb)))
  go_ret;exact⟨rfl,HX4.out⟩
 ·have h2:=h0.take 6 (by omega);have hmin:min (n:Int) 6=6:=(by omega);have hge:6≤cap:=(by omega);have hz2:bzKs (l.take 6)≤2000000:=Nat.le_trans (bzKs_take l 6) hz;have h6:(l.take 6).length≤100:=(by rw [List.length_take];omega);have PC:Hid (∀ W,Below w.heap.size w W→Calls Tryz.prog 17 #[.slice p 6 cap] W (tS (srcT (l.take 6)) W)):=(Lh fun W hW=>sourceP_any w _ _ h2 hz2 h6 ht W hW);have RC:Hid (∀ W,Below w.heap.size w W→Calls Tryz.prog 18 #[.slice p 6 cap] W (tS (srcT (l.take 6)) W)):=(Lh fun W hW=>sourceR_any w _ _ h2 hz2 h6 ht W hW);generalize srcT (l.take 6)=T at *
  clear h0 h2 hn ht hx hka hz hz2 h6
  go_enter Tryz.func6,Tryz.ntmps6
  go_wp2_with (first
   |(go_at_call 17;((with_reducible refine (PC.out _ (Below.refl _ _)).mono ?_);rintro e w2 ⟨rfl,hb⟩;have HX1:=Lh ((Below.refl _ _).then_ hb);clear hb))
   |(go_at_call 18;((with_reducible refine (RC.out _ HX1.out).mono ?_);rintro e w3 ⟨rfl,hb⟩;have HX2:=Lh (HX1.out.then_ hb);clear hb))
   |(go_at_call 12;((with_reducible refine (AC.out _ HX2.out).mono ?_);rintro e w4 ⟨rfl,hb⟩;have HX4:=Lh (HX2.out.then_ hb);clear hb)))
  go_ret;exact⟨rfl,HX4.out⟩
end CtL
end Go.Proofs.YtihnejaopejbgaaGreatDoor
