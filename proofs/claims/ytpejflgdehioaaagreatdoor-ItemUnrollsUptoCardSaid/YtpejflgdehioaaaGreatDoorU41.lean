/-
  Laws that the card uses; no conditions beside those that each states (ItExp).
-/
import Derived.Test.YtpejflgdehioaaaGreatDoorU36
import Derived.Test.YtpejflgdehioaaaGreatDoorU37
import Derived.Test.YtpejflgdehioaaaGreatDoorU38
set_option maxRecDepth 100000
set_option maxHeartbeats 16000000
namespace Go.Proofs.YtpejflgdehioaaaGreatDoor
namespace ItW
open Go Go.RowKit NumM LexW LexM ExM ExW ItM
open ClM (Fld)
theorem its_of {W:World} {n0:Nat} {v:Value} {L:List Pc} (hr:W.ownsRow n0 55 12 v L.length (L.flatMap pcC)) (hl:L.length≤1000) (hp:∀ p∈L,PcS (fun b=>b<W.heap.size) W p):ItsA W.heap.size W v (L.map Pc.x):=by
 obtain⟨p,cap,rfl,hc,h0⟩:=own_at hr (flat_len pcC_len L);have hlen:(L.map Pc.x).length=L.length:=List.length_map ..;have:=RowI.its (N:=W.heap.size) (w:=W) (p:=p) (cap:=cap) (V:=fun i r=>match L[i]? with | some q=>(pcC q).getD r undef | none=>undef) (l:=L.map Pc.x) ⟨by omega,by omega,fun hpos=>?_,fun i x hx=>?_⟩
 ·rw [hlen] at this;exact this
 ·obtain⟨g,rfl,hg,_,hcell⟩:=h0 (by omega);refine⟨g,0,rfl,hg.2,fun i x hx=>?_⟩;rw [List.getElem?_map] at hx;obtain⟨q,hq,rfl⟩:=Option.map_eq_some_iff.1 hx;have hf:=(fun r (hr:r<12)=>flat_at pcC_len L i r q hq hr);have e:∀ r u,r<12→(pcC q)[r]? = some u→W.cell? ⟨g,0+i*12+r,none⟩=some u:=fun r u h1 h2=>by
   rw [Nat.zero_add];exact hcell _ _ ((hf r h1).trans h2)
  have e0:=e 0 _ (by decide) rfl;rw [Nat.add_zero] at e0;refine⟨e0,e 1 _ (by decide) rfl,e 2 _ (by decide) rfl,e 3 _ (by decide) rfl,?_,e 5 _ (by decide) rfl,e 6 _ (by decide) rfl,?_,?_,?_,?_,?_⟩
  ·rw [hq];exact e 4 _ (by decide) rfl
  ·rw [hq];exact e 7 _ (by decide) rfl
  ·rw [hq];exact e 8 _ (by decide) rfl
  ·rw [hq];exact e 9 _ (by decide) rfl
  ·rw [hq];exact e 10 _ (by decide) rfl
  ·rw [hq];exact e 11 _ (by decide) rfl
 ·rw [List.getElem?_map] at hx;obtain⟨q,hq,rfl⟩:=Option.map_eq_some_iff.1 hx;have h:=hp q (List.mem_of_getElem? hq);rw [hq];exact⟨h.nm,h.ix,h.ex.toAt (fun _ q=>q),h.wt.toAt (fun _ q=>q),by rw [h.it];exact ItsA.nil _ _ _ _,by rw [h.el];exact ItsA.nil _ _ _ _,h.bf.toAt (fun _ q=>q),h.af.toAt (fun _ q=>q)⟩
theorem XL.its {xb fb n0:Nat} {W:World} {v:Value} {L:List Pc} (h:XL xb fb n0 W v L) (hl:L.length≤1000):ItsA W.heap.size W v (L.map Pc.x) :=
 its_of h.row hl fun p hp=>(h.parts p hp).eq fun _ q=>⟨q.1,rfl⟩
def tLB (X:List It) (b:Bool) (w:World) (x:Ending) (w':World):Prop:=∃ v,x=.returned (.tuple #[v,.bool b])∧ItsA w'.heap.size w' v X∧Below w.heap.size w w'
def exdS (fs:List Fld) (l:List It):List It × Bool:=if 400<cntL fs l then ([],false) else (exL fs none (fun a=>a) l,true)
theorem expanded_any (fb:Nat) (fs:List Fld) (hS:∀ f∈fs,0≤f.sz∧f.sz≤8) (l:List It) (v:Value) (w:World) (hd:dpt 5 l) (hsz:iszs l≤10000) (hsm:SmE l) (hf:FsA w fb fs) (hx:ItsA w.heap.size w v l) :
  Calls Tryz.prog 46 #[.map (some fb),v] w (tLB (exdS fs l).1 (exdS fs l).2 w):=by
 obtain⟨p,cap,V,rfl,hri⟩:=hx.form;have CN:=Lh (count_any fb fs hS l 5 _ w.heap.size w hd (by decide) hsz hf hx (Nat.le_refl _));have EE:Hid (exdS fs l=if 400<cntL fs l then ([],false) else (exL fs none (fun a=>a) l,true)):=Lh rfl;have hl0:=exL_len fs hS l none (fun a=>a);obtain⟨c,hc⟩:∃ c,cntL fs l=c:=⟨_,rfl⟩;by_cases h4:400<c
 ·rw [hc] at CN EE;rw [if_pos h4] at EE;have hd4:decide ((400:Int)<c)=true:=decide_eq_true h4;clear hc hl0 hri hx hf hsm hS hd;generalize l.length=K at *
  go_enter Tryz.func46,Tryz.ntmps46
  go_wp2_with (first
   | (go_at_call 86;((with_reducible refine CN.out.mono ?_);rintro e w1 ⟨rfl,hb⟩;have HB:=Lh hb;clear hb)))
  go_ret2;rw [EE.out];exact⟨_,rfl,ItsA.nil _ _ _ _,HB.out⟩
 ·have hd4:decide ((400:Int)<c)=false:=decide_eq_false h4;have HEX:Hid ((exL fs none (fun a=>a) l).length≤400):=Lh (by omega);have AD:Hid (∀ w1,Below w.heap.size w w1→Calls Tryz.prog 87 #[.pointer (some ⟨w1.heap.size,0,none⟩),.slice p l.length cap,.pointer none,.func (.func 88) #[] #[]] (w1.alloc (.cells #[.map (some fb),.slice none 0 0] 120)) (AddP w w1.heap.size fb [] (exL fs none (fun a=>a) l) (w1.alloc (.cells #[.map (some fb),.slice none 0 0] 120)))):=Lh fun w1 hb1=>by
   have hs1:=hb1.size;have hba:=ba w1 (.cells #[.map (some fb),.slice none 0 0] 120);have hxl:XL w1.heap.size fb w.heap.size (w1.alloc (.cells #[.map (some fb),.slice none 0 0] 120)) (.slice none 0 0) [] :=
    ⟨Blk.new w1 [.map (some fb),.slice none 0 0] 120,World.ownsRow_nil _ _ _ _,fun e=>by simp [Value.ownBlock] at e,fun p hp=>by cases hp⟩
   have:=add_any w w1.heap.size fb hs1 fs hS hf l 5 none (fun a=>a) 88 #[] (.pointer none) (.slice none 0 0) _ [] _ hd (by decide) hsz hsm hx (hb1.then_ hba) hxl (FixC.clone _ _) (fun _=>Nat.le_refl _) rfl (fun c hc=>by cases hc) (by simp;omega);exact this
  rw [hc] at CN EE;rw [if_neg h4] at EE;clear hc hl0 hri hx hf hsm hS hd;generalize l.length=K at *
  generalize exL fs none (fun a=>a) l=X at *
  go_enter Tryz.func46,Tryz.ntmps46
  go_wp2_with (first
   | (go_at_call 86;((with_reducible refine CN.out.mono ?_);rintro e w1 ⟨rfl,hb⟩;have HB:=Lh hb;clear hb))
   | (go_at_call 87;((with_reducible refine (AD.out _ HB.out).mono ?_);rintro e w2 ⟨rfl,u,M,hxl,hm,hk,hb2⟩;have HX:=Lh hxl;have HM:=Lh hm;have HB2:=Lh hb2;have m1:=hxl.bx.c 1 _ rfl;clear hxl hm hk hb2)))
  go_ret2;rw [EE.out];refine⟨_,rfl,?_,HB2.out⟩;have hlen:M.length≤400:=(by have:=congrArg List.length HM.out;rw [List.length_map] at this;have:=HEX.out;omega);have:=HX.out.its (by simpa using (show M.length≤1000 by omega));rw [List.nil_append] at this;show ItsA _ _ _ X;rw [←HM.out];exact this
def tLE (r:List It × Int) (w:World) (x:Ending) (w':World):Prop:=∃ v,x=.returned (.tuple #[v,.int .i64 r.2])∧ItsA w'.heap.size w' v r.1∧Below w.heap.size w w'
theorem itemExpand_any (fs:List Fld) (hS:∀ f∈fs,0≤f.sz∧f.sz≤8) (hF:fs.length≤10000) (l:List It) (v cv:Value) (w:World) (hx:ItsA w.heap.size w v l) (hc:ClA w.heap.size w cv fs) (hsz:iszs l≤10000) (hrs:RsL l) (hsm:SmE l) (ht:TabI w) :
  Calls Tryz.prog 22 #[v,cv] w (tLE (expS fs l) w):=by
 have hS1:∀ f∈fs,0≤f.sz∧f.sz≤100:=(fun f hf=>⟨(hS f hf).1,by have:=(hS f hf).2;omega⟩);have KC:Hid (∀ W,Below w.heap.size w W→Calls Tryz.prog 20 #[v,cv] W (tInt (checkI fs l) W)):=(Lh fun W hW=>itemCheck_any l fs hS1 hF v cv W ((hx.under hW).wide hW.size) ((hc.under hW).wide hW.size) hsz hrs (ht.later hW));have FC:Hid (∀ W,Below w.heap.size w W→Calls Tryz.prog 43 #[cv] W fun e w'=>∃ fb n,e=.returned (.map (some fb))∧W.heap.size≤fb∧FMap w' fb n fs∧Below W.heap.size W w'):=(Lh fun W hW=>fieldsOf_any fs hS1 hF cv W ((hc.under hW).wide hW.size));have XC:Hid (∀ W fb,Below w.heap.size w W→FsA W fb fs→checkI fs l=0→Calls Tryz.prog 46 #[.map (some fb),v] W (tLB (exdS fs l).1 (exdS fs l).2 W)):=Lh fun W fb hW hf hk=>by
  have hv:validI l=0:=by
   unfold checkI at hk;split at hk
   ·assumption
   ·exact hk
  exact expanded_any fb fs hS l v W (dpt_valid hv) hsz hsm hf ((hx.under hW).wide hW.size)
 have hxs:checkI fs l=0→∀ x∈exL fs none (fun a=>a) l,sz x.e≤10000:=fun hk=>by
  have hv:validI l=0:=by
   unfold checkI at hk;split at hk
   ·assumption
   ·exact hk
  exact exL_sz fs l 5 none (fun a=>a) (dpt_valid hv) (by decide) hsm (fun _=>Nat.le_refl _) (fun c hc=>by cases hc)
 have LC:Hid (∀ W u,Below w.heap.size w W→checkI fs l=0→ItsA W.heap.size W u (exL fs none (fun a=>a) l)→Calls Tryz.prog 47 #[u,.func (.func 48) #[] #[]] W (tBool ((exL fs none (fun a=>a) l).any largeB) W)):=Lh fun W u hW hk hu =>
  large_has _ largeB u W.heap.size W hu (Nat.le_refl _) fun x hx W' a4 a7 a8 a9 a10 a11 hW' hv=>large_one x a4 a7 a8 a9 a10 a11 W.heap.size W' hv hW'.size (hxs hk x hx) (ht.later (hW.then_ hW')).tab
 have HT:=Lh ht;have EE:Hid (expS fs l=if checkI fs l=0 then (if 400<cntL fs l then ([],2) else if (exL fs none (fun a=>a) l).any largeB=true then ([],2) else (exL fs none (fun a=>a) l,0)) else ([],checkI fs l)):=Lh rfl;have ED:Hid (exdS fs l=if 400<cntL fs l then ([],false) else (exL fs none (fun a=>a) l,true)):=Lh rfl;obtain⟨p,cap,V,rfl,hri⟩:=hx.form;obtain⟨cnm,par,vf,pb,kb,cb,rfl,pf,cf,rfl,_⟩:=hc;have B3:=Blk.new w [.string cnm,.string par,.slice pf fs.length cf,.slice pb kb cb] 34;have hb0:=ba w (.cells #[.string cnm,.string par,.slice pf fs.length cf,.slice pb kb cb] 34);have a0:=B3.c 0 _ rfl;have a1:=B3.c 1 _ rfl;have a2:=B3.c 2 _ rfl;have a3:=B3.c 3 _ rfl;have HB:=Lh hb0;have H3:=Lh B3;clear hri hxs B3 hb0 ht hS hS1 hsm hrs hsz hx hF;generalize fs.length=KF at *
 generalize l.length=K at *
 generalize expS fs l=R at *
 by_cases h0:checkI fs l=0
 ·have HK0:=Lh h0;rw [if_pos h0] at EE;rw [h0] at KC;clear h0;by_cases h4:400<cntL fs l
  ·rw [if_pos h4] at EE;have HD:Hid (exdS fs l=([],false)):=Lh (by rw [ED.out,if_pos h4]);have XC2:Hid (∀ W fb,Below w.heap.size w W→FsA W fb fs→Calls Tryz.prog 46 #[.map (some fb),.slice p K cap] W (tLB [] false W)):=Lh fun W fb hW hf=>by
    have:=XC.out W fb hW hf HK0.out;rw [HD.out] at this;exact this
   clear XC LC HD ED h4
   go_enter Tryz.func22,Tryz.ntmps22
   go_wp2_with (first
    | (go_at_call 20;((with_reducible refine (KC.out _ HB.out).mono ?_);rintro e w1 ⟨rfl,hb⟩;have HB1:=Lh (HB.out.then_ hb);have G3:=H3.out.stay hb;clear a0 a1 a2 a3;have a0:=G3.c 0 _ rfl;have a1:=G3.c 1 _ rfl;have a2:=G3.c 2 _ rfl;have a3:=G3.c 3 _ rfl;clear hb G3))
    | (go_at_call 43;((with_reducible refine (FC.out _ HB1.out).mono ?_);rintro e w2 ⟨fb,fn,rfl,hfb,hfm,hb⟩;have HB2:=Lh (HB1.out.then_ hb);have HFA:=Lh (FsA.mk ⟨_,hfm⟩ (HT.out.later (HB1.out.then_ hb)));clear hb hfm))
    | (go_at_call 46;((with_reducible refine (XC2.out _ fb HB2.out HFA.out).mono ?_);rintro e w3 ⟨u,rfl,hu,hb⟩;have HB3:=Lh (HB2.out.then_ hb);clear hb hu)))
   go_ret2;rw [EE.out];exact⟨_,rfl,ItsA.nil _ _ _ _,HB3.out⟩
  ·rw [if_neg h4] at EE;have HD:Hid (exdS fs l=(exL fs none (fun a=>a) l,true)):=Lh (by rw [ED.out,if_neg h4]);have XC2:Hid (∀ W fb,Below w.heap.size w W→FsA W fb fs→Calls Tryz.prog 46 #[.map (some fb),.slice p K cap] W (tLB (exL fs none (fun a=>a) l) true W)):=Lh fun W fb hW hf=>by
    have:=XC.out W fb hW hf HK0.out;rw [HD.out] at this;exact this
   have LC2:Hid (∀ W u,Below w.heap.size w W→ItsA W.heap.size W u (exL fs none (fun a=>a) l)→Calls Tryz.prog 47 #[u,.func (.func 48) #[] #[]] W (tBool ((exL fs none (fun a=>a) l).any largeB) W)):=(Lh fun W u h1 h2=>LC.out W u h1 HK0.out h2);clear XC LC HD ED h4;generalize exL fs none (fun a=>a) l=X at *
   generalize X.any largeB=q at *
   cases q
   ·rw [if_neg (by decide)] at EE
    go_enter Tryz.func22,Tryz.ntmps22
    go_wp2_with (first
     | (go_at_call 20;((with_reducible refine (KC.out _ HB.out).mono ?_);rintro e w1 ⟨rfl,hb⟩;have HB1:=Lh (HB.out.then_ hb);have G3:=H3.out.stay hb;clear a0 a1 a2 a3;have a0:=G3.c 0 _ rfl;have a1:=G3.c 1 _ rfl;have a2:=G3.c 2 _ rfl;have a3:=G3.c 3 _ rfl;clear hb G3))
     | (go_at_call 43;((with_reducible refine (FC.out _ HB1.out).mono ?_);rintro e w2 ⟨fb,fn,rfl,hfb,hfm,hb⟩;have HB2:=Lh (HB1.out.then_ hb);have HFA:=Lh (FsA.mk ⟨_,hfm⟩ (HT.out.later (HB1.out.then_ hb)));clear hb hfm))
     | (go_at_call 46;((with_reducible refine (XC2.out _ fb HB2.out HFA.out).mono ?_);rintro e w3 ⟨u,rfl,hu,hb⟩;have HB3:=Lh (HB2.out.then_ hb);have HU:=Lh hu;clear hb hu))
     | (go_at_call 47;((with_reducible refine (LC2.out _ _ HB3.out HU.out).mono ?_);rintro e w4 ⟨rfl,hb⟩;have HB4:=Lh (HB3.out.then_ hb);have HU4:=Lh ((HU.out.under hb).wide hb.size);clear hb)))
    go_ret2;rw [EE.out];exact⟨_,rfl,HU4.out,HB4.out⟩
   ·rw [if_pos rfl] at EE
    go_enter Tryz.func22,Tryz.ntmps22
    go_wp2_with (first
     | (go_at_call 20;((with_reducible refine (KC.out _ HB.out).mono ?_);rintro e w1 ⟨rfl,hb⟩;have HB1:=Lh (HB.out.then_ hb);have G3:=H3.out.stay hb;clear a0 a1 a2 a3;have a0:=G3.c 0 _ rfl;have a1:=G3.c 1 _ rfl;have a2:=G3.c 2 _ rfl;have a3:=G3.c 3 _ rfl;clear hb G3))
     | (go_at_call 43;((with_reducible refine (FC.out _ HB1.out).mono ?_);rintro e w2 ⟨fb,fn,rfl,hfb,hfm,hb⟩;have HB2:=Lh (HB1.out.then_ hb);have HFA:=Lh (FsA.mk ⟨_,hfm⟩ (HT.out.later (HB1.out.then_ hb)));clear hb hfm))
     | (go_at_call 46;((with_reducible refine (XC2.out _ fb HB2.out HFA.out).mono ?_);rintro e w3 ⟨u,rfl,hu,hb⟩;have HB3:=Lh (HB2.out.then_ hb);have HU:=Lh hu;clear hb hu))
     | (go_at_call 47;((with_reducible refine (LC2.out _ _ HB3.out HU.out).mono ?_);rintro e w4 ⟨rfl,hb⟩;have HB4:=Lh (HB3.out.then_ hb);clear hb)))
    go_ret2;rw [EE.out];exact⟨_,rfl,ItsA.nil _ _ _ _,HB4.out⟩
 ·rw [if_neg h0] at EE;generalize checkI fs l=E0 at *
  have f1:(E0 == 0)=false:=(by rw [beq_eq_false_iff_ne];exact h0);have f2:(E0 != 0)=true:=(by rw [bne,f1];rfl);clear h0 XC LC FC ED
  go_enter Tryz.func22,Tryz.ntmps22
  go_wp2_with (first
   | (go_at_call 20;((with_reducible refine (KC.out _ HB.out).mono ?_);rintro e w1 ⟨rfl,hb⟩;have HB1:=Lh (HB.out.then_ hb);clear hb)))
  go_ret2;rw [EE.out];exact⟨_,rfl,ItsA.nil _ _ _ _,HB1.out⟩
end ItW
end Go.Proofs.YtpejflgdehioaaaGreatDoor
