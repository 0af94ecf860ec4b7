/-
  Laws that the card uses; no conditions beside those that each states (ItWalk).
-/
import Derived.Test.YtihnejaopejbgaaGreatDoorP14
set_option maxRecDepth 100000
set_option maxHeartbeats 16000000
namespace Go.Proofs.YtihnejaopejbgaaGreatDoor
namespace ItW
open Go Go.RowKit Go.Shelf LexW LexM ExM ExW ItM
attribute [local go_sem] Oper.semAt_some
structure Pn (n₀:Nat) (w₀:World) where
 d:Nat
 B:List ByteArray
 x:It
 a4:Value
 a7:Value
 a8:Value
 a9:Value
 a10:Value
 a11:Value
 mb:Nat
 hd:d≤9000000
 h:IV n₀ w₀ a4 a7 a8 a9 a10 a11 x
def Pn.pl {n₀:Nat} {w₀:World} (p:Pn n₀ w₀):Pl:=⟨p.d,p.B,p.x⟩
abbrev encP {n₀:Nat} {w₀:World} (p:Pn n₀ w₀):Array Value:=#[plv p.d p.mb,iv p.x.kd p.x.e.op p.x.e.n p.x.e.nm p.a4 p.x.nm p.x.ix p.a7 p.a8 p.a9 p.a10 p.a11]
def TellB {n₀:Nat} {w₀:World} (G:Pl→Prop) (p:Pn n₀ w₀) (W:World):Prop:=(∃ n,IntMap W p.mb n (cntB p.B))∧G p.pl
theorem wks_mem {d:Nat} {B:List ByteArray} {l:List It} {a:It} {p:Pl} (h:a∈l) (hp:p∈wk d B a):p∈wks d B l:=by
 induction l with
 | nil=>cases h
 | cons b r ih =>
  rw [wks_cons,List.mem_append];rcases List.mem_cons.1 h with rfl | h
  ·exact .inl hp
  ·exact .inr (ih h)
def Low0 (n₀:Nat) (w₀ W:World):Prop:=∀ b o,b<n₀→∀ v,w₀.cell? ⟨b,o,none⟩=some v→W.cell? ⟨b,o,none⟩=some v
structure KeepM (n₀ n₁ mb:Nat) (W W':World):Prop where
 size:W.heap.size≤W'.heap.size
 low:∀ b cs t fr,b<n₀→W.heap[b]? = some (.cells cs t fr)→W'.heap[b]? = some (.cells cs t fr)
 high:∀ b o,n₁≤b→b≠mb→okO o→W.heap[b]? = some o→W'.heap[b]? = some o
theorem KeepM.refl (n₀ n₁ mb:Nat) (W:World):KeepM n₀ n₁ mb W W:=⟨Nat.le_refl _,fun _ _ _ _ _ h=>h,fun _ _ _ _ _ h=>h⟩
theorem KeepM.trans {n₀ n₁ mb:Nat} {A B C:World} (h:KeepM n₀ n₁ mb A B) (k:KeepM n₀ n₁ mb B C):KeepM n₀ n₁ mb A C :=
 ⟨Nat.le_trans h.size k.size,fun b cs t fr hb hv=>k.low b cs t fr hb (h.low b cs t fr hb hv),fun b o hb hm ho hv=>k.high b o hb hm ho (h.high b o hb hm ho hv)⟩
theorem KeepC.toM {n₀ n₁:Nat} {W W':World} (h:KeepC n₀ n₁ W W') (mb:Nat):KeepM n₀ n₁ mb W W':=⟨h.size,h.low,fun b o hb _ ho hv=>h.high b o hb ho hv⟩
theorem KeepM.turn {n₀ n₁ mb:Nat} {W W':World} (hn:n₀≤mb) (h:W.grownBy W' (some mb)):KeepM n₀ n₁ mb W W' :=
 ⟨h.size,fun b cs t fr hb hv=>(h.block b (Array.getElem?_eq_some_iff.1 hv).1 (fun e=>by cases e;omega)).trans hv,
  fun b o _ hm _ hv=>(h.block b (Array.getElem?_eq_some_iff.1 hv).1 (fun e=>by cases e;exact hm rfl)).trans hv⟩
theorem KeepM.low0 {n₀ n₁ mb:Nat} {w₀ W W':World} (h:KeepM n₀ n₁ mb W W') (k:Low0 n₀ w₀ W):Low0 n₀ w₀ W':=fun b o hb v hv=>by
 have h1:=k b o hb v hv;obtain⟨cs,t,fr,hc⟩:=cell_cells h1;exact (World.cell?_of_block (w:=W) (by rw [h.low b cs t fr hb hc,hc])).trans h1
def CameC {n₀:Nat} {w₀:World} (J Jx:List (Pn n₀ w₀)→World→Prop) (n₁ mb c:Nat) (L:List Pl) (bef:List (Pn n₀ w₀)) (B:List ByteArray) (W:World) (e:Ending) (W':World):Prop :=
 ((e=.returned (.bool true)∧∃ ys:List (Pn n₀ w₀),ys.map Pn.pl=L∧J (bef++ys) W')∨(e=.returned (.bool false)∧∃ q:List (Pn n₀ w₀),q.map Pn.pl <+: L∧Jx (bef++q) W'))∧KeepM n₀ n₁ mb W W'∧IntMap W' mb c (cntB B)
theorem cntB_inn (kd:Int) (ix:ByteArray) (B:List ByteArray) (t:ByteArray):cntB (inn kd ix B) t=cntB B t+(if ClM.same ix t=true then (if kd=5 then 1 else 0) else 0):=by
 unfold inn;split
 ·rw [cntB_cons]
 ·simp
theorem inn_len (kd:Int) (ix:ByteArray) (B:List ByteArray):(inn kd ix B).length≤B.length+1:=by unfold inn;split<;>simp
theorem same_eq {a b:ByteArray} (h:ClM.same a b=true):a=b:=bs_eq (by simpa [ClM.same] using h)
theorem bind_up {W:World} {mb n:Nat} {B:List ByteArray} {ix:ByteArray} (kd bd:Int) (hb:bd=if kd=5 then 1 else 0) (hB:B.length≤9000000) (h:IntMap W mb n (cntB B)) (hn:n≤90000000) (hs:ix.size≤140737488351232) :
  ∃ W',(Instr.mapUpdate 82 (.map (some mb)) (.string ix) (.int .i64 (cntB B ix+bd))).run Tryz.prog W=.ok () W'∧IntMap W' mb (n+1) (cntB (inn kd ix B))∧W.grownBy W' (some mb):=by
 have h1:=cntB_le B ix;have h2:=(cntB_pos B ix).1;obtain⟨W',a,b,c⟩:=h.put Tryz.underlying82 hn ix hs (cntB B ix+bd) (by subst hb;split<;>omega) (by subst hb;split<;>omega);refine⟨W',a,b.same fun t=>?_,c⟩;rw [cntB_inn];by_cases e:ClM.same ix t=true
 ·rw [if_pos e,if_pos e,←same_eq e,hb]
 ·rw [if_neg e,if_neg e];omega
theorem bind_down {W:World} {mb n:Nat} {B:List ByteArray} {ix:ByteArray} (kd bd:Int) (hb:bd=if kd=5 then 1 else 0) (hB:B.length≤9000000) (h:IntMap W mb n (cntB (inn kd ix B))) (hn:n≤90000000) (hs:ix.size≤140737488351232) :
  ∃ W',(Instr.mapUpdate 82 (.map (some mb)) (.string ix) (.int .i64 (cntB (inn kd ix B) ix - bd))).run Tryz.prog W=.ok () W'∧IntMap W' mb (n+1) (cntB B)∧W.grownBy W' (some mb):=by
 have h1:=cntB_le B ix;have h2:=(cntB_pos B ix).1;have h3:=cntB_inn kd ix B ix;have h4:ClM.same ix ix=true:=(by simp [ClM.same]);rw [if_pos h4] at h3;obtain⟨W',a,b,c⟩:=h.put Tryz.underlying82 hn ix hs (cntB (inn kd ix B) ix - bd) (by subst hb;rw [h3];split<;>omega) (by subst hb;rw [h3];split<;>omega);refine⟨W',a,b.same fun t=>?_,c⟩;by_cases e:ClM.same ix t=true
 ·rw [if_pos e,←same_eq e,h3,hb];omega
 ·rw [if_neg e,cntB_inn,if_neg e];omega
theorem walkC_in (F:Fence) (hd:F.depth=none) (h66:F.fn 74) (hro:F.round=none) (l n₀ n₁ NN yb bb wb mb:Nat) (w₀:World) (J Jx:List (Pn n₀ w₀)→World→Prop) (hn:n₀≤n₁)
  (hJ:∀ s A B,J s A→A.grownBy B none→J s B) (hJm:∀ s A B,J s A→A.grownBy B (some mb)→(∃ es ck,A.heap[mb]? = some (.map es ck))→J s B) (hJxm:∀ s A B,Jx s A→A.grownBy B (some mb)→(∃ es ck,A.heap[mb]? = some (.map es ck))→Jx s B)
  (hyb:n₁≤yb) (hbb:n₁≤bb) (hwb:n₁≤wb) (hmb:n₁≤mb) (hym:yb≠mb) (hbm:bb≠mb) (hwm:wb≠mb)
  (G:Pl→Prop) (hY:∀ m bef (x:Pn n₀ w₀) W,J bef W→TellB G x W→bef.length<NN→YieldAt F m Tryz.prog l (encP x) W fun e W' =>
   (e=.returned (.bool true)∧J (bef++[x]) W'∧KeepC n₀ n₁ W W')∨(e=.returned (.bool false)∧Jx (bef++[x]) W'∧KeepC n₀ n₁ W W')) (l0:List It) :
  ∀ (n d c:Nat) (B:List ByteArray) (v:Value) (bef:List (Pn n₀ w₀)) (W:World),ItsA n₀ w₀ v l0→Low0 n₀ w₀ W→J bef W→n₁≤W.heap.size→bef.length+iszs l0≤NN→d+iszs l0≤9000000→c+2*iszs l0≤90000000→B.length≤d→(∀ p∈wks d B l0,G p) →
   Boxed W yb 104 (.func (.yield l) #[] #[])→Boxed W bb 82 (.map (some mb))→Boxed W wb 28 (.func (.func 74) #[] #[.pointer (some ⟨yb,0,none⟩),.pointer (some ⟨bb,0,none⟩),.pointer (some ⟨wb,0,none⟩)])→IntMap W mb c (cntB B) →
   CallsIn F n Tryz.prog 74 #[v,.int .i64 d,.pointer (some ⟨yb,0,none⟩),.pointer (some ⟨bb,0,none⟩),.pointer (some ⟨wb,0,none⟩)] W (CameC J Jx n₁ mb (c+2*iszs l0) (wks d B l0) bef B W):=by
 have hdd:∀ k:Nat,(F.depth.isSome=true→1≤k):=(fun k h=>by rw [hd] at h;cases h);induction l0 using its_ind with
 | h l0 ih =>
  intro n d c B v bef W hx hlo hJ0 hsz hNN hdl hcl hBd hG cy cb cw hm;obtain⟨p,cap,V,rfl,ha⟩:=hx.form;have hks:l0.length≤140737488351232:=(by have:=ha.hl;omega);obtain⟨K,hK⟩:∃ K,l0.length=K:=⟨_,rfl⟩;have HK:=Lh hK;rw [hK] at hks ⊢;clear hK hx;have HCY:=Lh cy;have HCB:=Lh cb;have HCW:=Lh cw;have HLO:=Lh hlo;have HA:=Lh ha;have HJ0:=Lh hJ0;have HM:=Lh hm;have HY:=Lh hY;have HG:=Lh hG;have HIH:=Lh ih;have HJ:=Lh hJ;have HJM:=Lh hJm;have HJX:=Lh hJxm;clear cy cb cw hlo ha hJ0 hm hY ih hJ hJm hJxm hG;refine callsIn_of_wp Tryz.func74 rfl h66 ?_ hro;simp only [Tryz.ntmps74,List.size_toArray,List.length_cons,List.length_nil,Nat.reduceAdd,Nat.reduceSub,Array.replicate_succ,Array.replicate_zero,List.push_toArray,List.append_toArray,List.nil_append,List.cons_append]
  gi_wp2
  gi_loopw [14] (fun i wr=>∃ (k:Nat) (ys:List (Pn n₀ w₀)),k≤K∧i=.int .i64 k∧Hid (ys.map Pn.pl=wks d B (l0.take k))∧Hid (J (bef++ys) wr)∧Hid (KeepM n₀ n₁ mb W wr)∧Hid (IntMap wr mb (c+2*iszs (l0.take k)) (cntB B))) (fun i _=>K - (intOf i).toNat)
  case atStart=>exact⟨0,[],Nat.zero_le _,rfl,Lh (by rw [List.take_zero,wks_nil];rfl),Lh (by rw [List.append_nil];exact HJ0.out),Lh (KeepM.refl _ _ _ _),Lh (by rw [List.take_zero,iszs_nil];exact HM.out)⟩
  case round =>
   obtain⟨k,ys,hk,rfl,YS,JW,KW,MW⟩:=hrel;by_cases hlt:k<K
   ·obtain⟨b,off,rfl,hbs,hcell⟩:=HA.out.hp (by rw [HK.out];omega);obtain⟨a,hak⟩:∃ a,l0[k]? = some a:=⟨_,List.getElem?_eq_getElem (by rw [HK.out];exact hlt)⟩;have hva:=HA.out.hv k a hak;have hlow:=KW.out.low0 HLO.out;have hca:=(hcell k a hak).kept (w':=wr) (fun o v hv=>hlow b o hbs v hv);obtain⟨V4,h4⟩:∃ x,V k 4=x:=⟨_,rfl⟩;obtain⟨V7,h7⟩:∃ x,V k 7=x:=⟨_,rfl⟩;obtain⟨V8,h8⟩:∃ x,V k 8=x:=⟨_,rfl⟩;obtain⟨V9,h9⟩:∃ x,V k 9=x:=⟨_,rfl⟩;obtain⟨V10,h10⟩:∃ x,V k 10=x:=⟨_,rfl⟩;obtain⟨V11,h11⟩:∃ x,V k 11=x:=⟨_,rfl⟩;rw [h4,h7,h8,h9,h10,h11] at hva;obtain⟨g0,g1,g2,g3,g4,g5,g6,g7,g8,g9,g10,g11⟩:=hca;rw [h4] at g4;rw [h7] at g7;rw [h8] at g8;rw [h9] at g9;rw [h10] at g10;rw [h11] at g11;clear h4 h7 h8 h9 h10 h11 hcell;obtain⟨p4,k4,p7,k7,p8,k8,p9,k9,p10,k10,p11,k11,rfl,rfl,rfl,rfl,rfl,rfl⟩:=hva.slices;obtain⟨n4,hn4⟩:∃ n,a.e.args.length=n:=⟨_,rfl⟩;obtain⟨n7,hn7⟩:∃ n,a.ws.length=n:=⟨_,rfl⟩;obtain⟨n8,hn8⟩:∃ n,a.it.length=n:=⟨_,rfl⟩;obtain⟨n9,hn9⟩:∃ n,a.el.length=n:=⟨_,rfl⟩;obtain⟨n10,hn10⟩:∃ n,a.bf.length=n:=⟨_,rfl⟩;obtain⟨n11,hn11⟩:∃ n,a.af.length=n:=⟨_,rfl⟩;rw [hn4] at g4;rw [hn7] at g7;rw [hn8] at g8;rw [hn9] at g9;rw [hn10] at g10;rw [hn11] at g11;rw [hn4,hn7,hn8,hn9,hn10,hn11] at hva;clear hn4 hn7 hn8 hn9 hn10 hn11;have hblt:=cell_lt g0;have hsa:=iszs_take hak;have hsb:=iszs_take_le (k+1) l0;have hse:=isz_eq a;have hyl:ys.length=iszs (l0.take k):=(by rw [←wks_len _ d B,←YS.out,List.length_map]);have HTK:=Lh (wks_take (d:=d) (B:=B) hak);have HWA:=Lh (wk_eq d B a);have HPR:Hid (wks d B (l0.take (k+1)) <+: wks d B l0):=Lh (by
     have:=wks_append d B (l0.take (k+1)) (l0.drop (k+1));rw [List.take_append_drop] at this;exact⟨_,this.symm⟩)
    have HMEM:=Lh (List.mem_of_getElem? hak);have hix:=hva.ix;obtain⟨x,hxd⟩:∃ x:Pn n₀ w₀,x=⟨d,B,a,.slice p4 n4 k4,.slice p7 n7 k7,.slice p8 n8 k8,.slice p9 n9 k9,.slice p10 n10 k10,.slice p11 n11 k11,mb,by omega,hva⟩:=⟨_,rfl⟩;have hxe:encP x=#[plv d mb,iv a.kd a.e.op a.e.n a.e.nm (.slice p4 n4 k4) a.nm a.ix (.slice p7 n7 k7) (.slice p8 n8 k8) (.slice p9 n9 k9) (.slice p10 n10 k10) (.slice p11 n11 k11)]:=(by rw [hxd]);have HXP:Hid (x.pl=⟨d,B,a⟩):=Lh (by rw [hxd];rfl);have hxt:∀ X n,IntMap X mb n (cntB B)→TellB G x X:=(fun X n h=>⟨⟨n,by rw [hxd];exact h⟩,by rw [hxd];exact HG.out _ (wks_mem HMEM.out (by rw [wk_eq];exact List.mem_cons_self))⟩);obtain⟨Ob,hOb⟩:∃ Ob:Obj,Ob=.cells #[.int .i64 a.kd,.int .i64 a.e.op,.int .i64 a.e.n,.string a.e.nm,.slice p4 n4 k4,.string a.nm,.string a.ix,.slice p7 n7 k7,.slice p8 n8 k8,.slice p9 n9 k9,.slice p10 n10 k10,.slice p11 n11 k11] 53:=⟨_,rfl⟩;have hb1:Below wr.heap.size wr (wr.alloc Ob):=(Below.refl _ _).alloc (Nat.le_refl _) _;have hws:=KW.out.size;have hml:=MW.out.lt;have m1:=MW.out.below hb1;have hy1:=HY.out (n - 1) (bef++ys) x _ (HJ.out _ _ _ JW.out (grown_of_below hb1)) (hxt _ _ m1) (by simp;omega);rw [hxe] at hy1;obtain⟨fn,tmps,assign,body,hy,hR⟩:=hy1;have hY0:Boxed wr yb 104 (.func (.yield l) #[] #[]):=KW.out.high _ _ hyb hym (okC (by decide)) HCY.out;have hB0:Boxed wr bb 82 (.map (some mb)):=KW.out.high _ _ hbb hbm (okC (by decide)) HCB.out;have hW0:Boxed wr wb 28 (.func (.func 74) #[] #[.pointer (some ⟨yb,0,none⟩),.pointer (some ⟨bb,0,none⟩),.pointer (some ⟨wb,0,none⟩)]):=KW.out.high _ _ hwb hwm (okC (by decide)) HCW.out;have by1:=hY0.alloc Ob;have bb1:=hB0.alloc Ob;have bw1:=hW0.alloc Ob;have be1:(wr.alloc Ob).heap[wr.heap.size]? = some Ob:=heap_alloc_new _ _;have KW1:Hid (KeepM n₀ n₁ mb W (wr.alloc Ob)):=Lh (KW.out.trans ((KeepC.of_below hb1).toM mb));have HLOW1:Hid (Low0 n₀ w₀ (wr.alloc Ob)):=Lh (KW1.out.low0 HLO.out);have HBE:=Lh be1;have HBY:=Lh by1;have HBB:=Lh bb1;have HBW:=Lh bw1;have M1:=Lh m1;have cy1:=by1.cell;have cb1:=bb1.cell;subst hOb;have HVA:=Lh hva;clear hxd hxe hxt hva hlow hb1 hY0 hB0 hW0 by1 bb1 bw1 be1 m1 hak;have hidx:wr.heap.size≠mb:=by omega
    gi_wp2
    refine hR.mono ?_;rintro e W2 (⟨rfl,hJ2,hk2⟩ | ⟨rfl,hJx2,hk2⟩)
    ·have KW2:Hid (KeepM n₀ n₁ mb W W2):=Lh (KW1.out.trans (hk2.toM mb));have m2:=M1.out.keep hmb hk2;have hs2:=hk2.size;rw [World.size_alloc] at hs2;have eb2:=hk2.high _ _ (show n₁≤wr.heap.size by omega) (okC (by decide)) HBE.out;have eY2:Boxed W2 yb _ _:=hk2.high _ _ hyb (okC (by decide)) HBY.out;have eB2:Boxed W2 bb _ _:=hk2.high _ _ hbb (okC (by decide)) HBB.out;have eW2:Boxed W2 wb _ _:=hk2.high _ _ hwb (okC (by decide)) HBW.out;have hz0:=(cntB_pos B a.ix).1;have hz1:=cntB_le B a.ix;have hil:=inn_len a.kd a.ix B;have hy0:=(cntB_pos (inn a.kd a.ix B) a.ix).1;have hy1:=cntB_le (inn a.kd a.ix B) a.ix;have hlk:=m2.look Tryz.underlying82 a.ix hix;have HJ2:=Lh hJ2;have HM2:=Lh m2;have HE2:=Lh eb2;have HY2:=Lh eY2;have HB2:=Lh eB2;have HW2:=Lh eW2;have ce0:W2.cell? ⟨wr.heap.size,0,none⟩=some (.int .i64 a.kd):=(by simp [World.cell?,eb2]);have ce6:W2.cell? ⟨wr.heap.size,6,none⟩=some (.string a.ix):=(by simp [World.cell?,eb2]);have cB2:=eB2.cell;clear hJ2 hk2 m2 eb2 eY2 eB2 eW2 hR hy cy1 cb1 g0 g1 g2 g3 g4 g5 g6 g7 g8 g9 g10 g11;obtain⟨bd,hbd⟩:∃ bd:Int,bd=if a.kd=5 then 1 else 0:=⟨_,rfl⟩
     have HBD:=Lh hbd;have hbq:(a.kd == 5)=true∧bd=1∨(a.kd == 5)=false∧bd=0:=by
      rw [hbd];by_cases h5:a.kd=5
      ·left;simp [h5]
      ·right;simp [h5]
     clear hbd;rcases hbq with ⟨q5,rfl⟩ | ⟨q5,rfl⟩
     all_goals
      obtain⟨W3,hup,m3,hg3⟩:=bind_up a.kd _ HBD.out (by omega) HM2.out (by omega) hix;try simp only [Int.add_zero] at hup
      have eb3:=(hg3.block wr.heap.size (by omega) (fun e=>by cases e;omega)).trans HE2.out;have ce8:W3.cell? ⟨wr.heap.size,8,none⟩=some (.slice p8 n8 k8):=(by simp [World.cell?,eb3]);have eY3:Boxed W3 yb _ _:=(hg3.block yb HY2.out.lt (fun e=>by cases e;exact hym rfl)).trans HY2.out;have eB3:Boxed W3 bb _ _:=(hg3.block bb HB2.out.lt (fun e=>by cases e;exact hbm rfl)).trans HB2.out;have eW3:Boxed W3 wb _ _:=(hg3.block wb HW2.out.lt (fun e=>by cases e;exact hwm rfl)).trans HW2.out;have cW3:=eW3.cell;have KW3:Hid (KeepM n₀ n₁ mb W W3):=Lh (KW2.out.trans (KeepM.turn (by omega) hg3));have hs3:=hg3.size;have RC:Hid (CallsIn F (n - 1) Tryz.prog 74 #[.slice p8 n8 k8,.int .i64 ((d:Int)+1),.pointer (some ⟨yb,0,none⟩),.pointer (some ⟨bb,0,none⟩),.pointer (some ⟨wb,0,none⟩)] W3
        (CameC J Jx n₁ mb (c+2*iszs (l0.take k)+1+2*iszs a.it) (wks (d+1) (inn a.kd a.ix B) a.it) (bef++ys++[x]) (inn a.kd a.ix B) W3)):=Lh (by
       have:=(HIH.out a HMEM.out).1 (n - 1) (d+1) (c+2*iszs (l0.take k)+1) (inn a.kd a.ix B) _ _ W3 HVA.out.its (KW3.out.low0 HLO.out) (HJM.out _ _ _ HJ2.out hg3 HM2.out.obj) (by omega) (by simp;omega) (by omega) (by omega) (by omega) (fun p hp=>HG.out p (wks_mem HMEM.out (by rw [wk_eq];exact List.mem_cons_of_mem _ (List.mem_append.2 (.inl hp))))) eY3 eB3 eW3 m3;exact this)
      have HE3:=Lh eb3;have HY3:=Lh eY3;have HB3:=Lh eB3;have HW3:=Lh eW3;clear eb3 eY3 eB3 eW3 hg3 m3
      gi_wp2_with (first
       |((try refine⟨hdd _,?_⟩);gi_at_call 74;(with_reducible refine (RC.out).mono ?_);clear RC;rintro e W5 ⟨hgo,hk5,hm5⟩
         have hs5:=hk5.size;have hlk5:=hm5.look Tryz.underlying82 a.ix hix;have eb5:=hk5.high _ _ (show n₁≤wr.heap.size by omega) hidx (okC (by decide)) HE3.out;have eB5:Boxed W5 bb _ _:=hk5.high _ _ hbb hbm (okC (by decide)) HB3.out;have eW5:Boxed W5 wb _ _:=hk5.high _ _ hwb hwm (okC (by decide)) HW3.out;have eY5:Boxed W5 yb _ _:=hk5.high _ _ hyb hym (okC (by decide)) HY3.out;have cB5:=eB5.cell;have ce65:W5.cell? ⟨wr.heap.size,6,none⟩=some (.string a.ix):=(by simp [World.cell?,eb5]);obtain⟨W6,hup6,m6,hg6⟩:=bind_down a.kd _ HBD.out (by omega) hm5 (by omega) hix;try simp only [Int.sub_zero] at hup6
         have hs6:=hg6.size;have eb6:=(hg6.block wr.heap.size (by omega) (fun e=>by cases e;omega)).trans eb5;have ce96:W6.cell? ⟨wr.heap.size,9,none⟩=some (.slice p9 n9 k9):=(by simp [World.cell?,eb6]);have eW6:Boxed W6 wb _ _:=(hg6.block wb eW5.lt (fun e=>by cases e;exact hwm rfl)).trans eW5;have eY6:Boxed W6 yb _ _:=(hg6.block yb eY5.lt (fun e=>by cases e;exact hym rfl)).trans eY5;have eB6:Boxed W6 bb _ _:=(hg6.block bb eB5.lt (fun e=>by cases e;exact hbm rfl)).trans eB5;have cW6:=eW6.cell;have KW6:Hid (KeepM n₀ n₁ mb W W6):=Lh ((KW3.out.trans hk5).trans (KeepM.turn (by omega) hg6));have HY6:=Lh eY6;have HB6:=Lh eB6;have HW6:=Lh eW6;have HM6:=Lh m6;have HO5:=Lh hm5.obj;have HG6:=Lh hg6;have RC2:Hid (∀ zs:List (Pn n₀ w₀),zs.map Pn.pl=wks (d+1) (inn a.kd a.ix B) a.it→J (bef++ys++[x]++zs) W5→CallsIn F (n - 1) Tryz.prog 74 #[.slice p9 n9 k9,.int .i64 ((d:Int)+1),.pointer (some ⟨yb,0,none⟩),.pointer (some ⟨bb,0,none⟩),.pointer (some ⟨wb,0,none⟩)] W6
           (CameC J Jx n₁ mb (c+2*iszs (l0.take k)+1+2*iszs a.it+1+2*iszs a.el) (wks (d+1) B a.el) (bef++ys++[x]++zs) B W6)):=Lh (fun zs hzs hjz=>by
          have hzl:zs.length=iszs a.it:=(by rw [←wks_len _ (d+1) (inn a.kd a.ix B),←hzs,List.length_map]);have:=(HIH.out a HMEM.out).2 (n - 1) (d+1) (c+2*iszs (l0.take k)+1+2*iszs a.it+1) B _ _ W6 HVA.out.els (KW6.out.low0 HLO.out) (HJM.out _ _ _ hjz HG6.out HO5.out) (by omega) (by simp;omega) (by omega) (by omega) (by omega) (fun p hp=>HG.out p (wks_mem HMEM.out (by rw [wk_eq];exact List.mem_cons_of_mem _ (List.mem_append.2 (.inr hp))))) HY6.out HB6.out HW6.out HM6.out;exact this)
         clear eb5 eb6 eB5 eW5 eY5 eW6 eY6 eB6 hk5 hm5 m6 hg6;rcases hgo with ⟨rfl,zs,hzs,hjz⟩ | ⟨rfl,q,hq1,hq2⟩)
       |((try refine⟨hdd _,?_⟩);gi_at_call 74;(with_reducible refine (RC2.out zs hzs hjz).mono ?_);clear RC2;rintro e W7 ⟨hgo,hk7,hm7⟩
         have KW7:Hid (KeepM n₀ n₁ mb W W7):=Lh (KW6.out.trans hk7);have HM7:=Lh hm7;clear hk7 hm7;rcases hgo with ⟨rfl,us,hu,hj⟩ | ⟨rfl,q,hq1,hq2⟩)
       |((with_reducible show (∀ f:FuncId,none=some f→F.fn f)∧_);refine⟨fun _ h=>(nomatch h),?_⟩))
      ·go_roundw
       case rel =>
        refine⟨k+1,ys++x::(zs++us),by omega,by go_num,Lh ?_,Lh ?_,KW7,Lh ?_⟩
        ·rw [HTK.out,HWA.out,List.map_append,YS.out,List.map_cons,HXP.out,List.map_append,hzs,hu]
        ·simpa [List.append_assoc] using hj
        ·rw [hsa,hse];exact HM7.out.mono (by omega)
       case measure=>simp [intOf];omega
      ·go_ret;refine⟨.inr ⟨rfl,ys++x::(zs++q),?_,by simpa [List.append_assoc] using hq2⟩,KW7.out,HM7.out.mono (by omega)⟩;rw [List.map_append,YS.out,List.map_cons,HXP.out,List.map_append,hzs];refine List.IsPrefix.trans ?_ HPR.out;rw [HTK.out,HWA.out];exact (List.prefix_append_right_inj _).2 (List.prefix_cons_inj _ |>.2 ((List.prefix_append_right_inj _).2 hq1))
      ·go_ret;refine⟨.inr ⟨rfl,ys++x::q,?_,?_⟩,KW6.out,HM6.out.mono (by omega)⟩
       ·rw [List.map_append,YS.out,List.map_cons,HXP.out];refine List.IsPrefix.trans ?_ HPR.out;rw [HTK.out,HWA.out];exact (List.prefix_append_right_inj _).2 (List.prefix_cons_inj _ |>.2 (List.IsPrefix.trans hq1 (List.prefix_append _ _)))
       ·have:=HJX.out _ _ _ hq2 HG6.out HO5.out
        simpa [List.append_assoc] using this
    ·have KW2:Hid (KeepM n₀ n₁ mb W W2):=Lh (KW1.out.trans (hk2.toM mb));have M2:=Lh (M1.out.keep hmb hk2);clear hk2;have HX2:=Lh hJx2;clear hJx2
     gi_wp2
     go_ret;refine⟨.inr ⟨rfl,ys++[x],?_,by simpa [List.append_assoc] using HX2.out⟩,KW2.out,M2.out.mono (by omega)⟩;rw [List.map_append,YS.out,List.map_cons,List.map_nil,HXP.out];refine List.IsPrefix.trans ?_ HPR.out;rw [HTK.out,HWA.out];exact (List.prefix_append_right_inj _).2 (List.prefix_cons_inj _ |>.2 (List.nil_prefix))
   ·have hkK:k=K:=(by omega);have YS2:Hid (ys.map Pn.pl=wks d B l0):=Lh (by rw [YS.out,hkK,←HK.out,List.take_length]);have MW2:Hid (IntMap wr mb (c+2*iszs l0) (cntB B)):=Lh (by have:=MW.out;rw [hkK,←HK.out,List.take_length] at this;exact this);clear hkK
    gi_wp2
    go_ret;exact⟨.inl ⟨rfl,ys,YS2.out,JW.out⟩,KW.out,MW2.out⟩
end ItW
end Go.Proofs.YtihnejaopejbgaaGreatDoor
