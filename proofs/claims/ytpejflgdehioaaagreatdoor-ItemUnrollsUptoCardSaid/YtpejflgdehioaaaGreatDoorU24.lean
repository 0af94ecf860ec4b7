/-
  Laws that the card uses; no conditions beside those that each states (ItCount ItFix ItCount2).
-/
import Derived.Test.YtpejflgdehioaaaGreatDoorU17
import Derived.Test.YtpejflgdehioaaaGreatDoorU20
import Derived.Test.YtpejflgdehioaaaGreatDoorU23
set_option maxRecDepth 100000
set_option maxHeartbeats 16000000
namespace Go.Proofs.YtpejflgdehioaaaGreatDoor
namespace ItW
open Go Go.RowKit NumM LexW LexM ExM ExW ItM
open ClM (Fld)
theorem constant_any (n:Int) (w:World):Calls Tryz.prog 135 #[.int .i64 n] w fun e w'=>e=.returned (xv 1 n ⟨#[]⟩ (.slice none 0 0))∧Below w.heap.size w w':=by
 go_enter Tryz.func135,Tryz.ntmps135
 go_wp2;refine bodyPost_ret (v:=xv 1 n ⟨#[]⟩ (.slice none 0 0)) (by simp [results,Tryz.results135,go_sem]) rfl ?_;exact⟨rfl,by repeat' (first | exact Below.refl _ _ | (refine Below.alloc ?_ (by simp) _) | (refine Below.setCell (p:=⟨_,_,_⟩) ?_ (by simp) _))⟩
theorem large_one (x:It) (a4 a7 a8 a9 a10 a11:Value) (N:Nat) (w:World) (h:IV N w a4 a7 a8 a9 a10 a11 x) (hN:N≤w.heap.size) (hsz:sz x.e≤10000) (ht:Tab w) :
  Calls Tryz.prog 48 #[iv x.kd x.e.op x.e.n x.e.nm a4 x.nm x.ix a7 a8 a9 a10 a11] w (tBool (largeB x) w):=by
 have VC0:∀ W,Below w.heap.size w W→Calls Tryz.prog 55 #[xv x.e.op x.e.n x.e.nm a4] W (tInt (vld x.e) W):=(fun W hW=>valid_any x.e _ W ((h.ex.under (hW.mono hN)).wide (by have:=hW.size;omega)) hsz (ht.later hW));obtain⟨kd,o,n,en,p4,k4,c4,nm,ix,p7,k7,c7,p8,k8,c8,p9,k9,c9,p10,k10,c10,p11,k11,c11,ev,hv⟩:=h.open_;have ev2:=ev;simp only [Value.agg.injEq,Array.mk.injEq,List.cons.injEq] at ev2;obtain⟨-,-,-,-,rfl,-,-,rfl,rfl,rfl,rfl,rfl,-⟩:=ev2;rw [ev];rw [hv.e1,hv.e2,hv.e3] at VC0;have EE:Hid (largeB x=(!outK kd&&!decide (vld x.e=0))):=Lh (by unfold largeB;rw [hv.e0]);have OC:Hid (∀ W,Calls Tryz.prog 73 #[.int .i64 kd] W fun e w'=>e=.returned (.bool (outK kd))∧W=w'):=(Lh fun W=>out_any kd W);have VC:=Lh VC0;obtain⟨cs,hcs⟩:∃ cs,cs=ics kd o n en (.slice p4 k4 c4) nm ix (.slice p7 k7 c7) (.slice p8 k8 c8) (.slice p9 k9 c9) (.slice p10 k10 c10) (.slice p11 k11 c11):=⟨_,rfl⟩;have F0:=Blk.new w cs 55;have HB:=Lh (ba w (.cells cs.toArray 55));subst hcs;have d0:=F0.c 0 _ rfl;have d1:=F0.c 1 _ rfl;have d2:=F0.c 2 _ rfl;have d3:=F0.c 3 _ rfl;have d4:=F0.c 4 _ rfl;clear F0 ev hv h ht VC0 hN hsz;generalize outK kd=q at *
 generalize vld x.e=z at *
 cases q
 ·by_cases hz:z=0
  ·subst hz
   go_enter Tryz.func48,Tryz.ntmps48
   go_wp2_with (first
    | (go_at_call 73;((with_reducible refine (OC.out _).mono ?_);rintro e w1 ⟨rfl,rfl⟩))
    | (go_at_call 55;((with_reducible refine (VC.out _ HB.out).mono ?_);rintro e w2 ⟨rfl,hb⟩;have HB2:=Lh (HB.out.then_ hb);clear hb)))
   go_ret;exact tBool_mk (by rw [EE.out];rfl) HB2.out
  ·have hz2:(z != 0)=true:=by simpa using hz
   go_enter Tryz.func48,Tryz.ntmps48
   go_wp2_with (first
    | (go_at_call 73;((with_reducible refine (OC.out _).mono ?_);rintro e w1 ⟨rfl,rfl⟩))
    | (go_at_call 55;((with_reducible refine (VC.out _ HB.out).mono ?_);rintro e w2 ⟨rfl,hb⟩;have HB2:=Lh (HB.out.then_ hb);clear hb)))
   go_ret;exact tBool_mk (by rw [EE.out,decide_eq_false hz];rfl) HB2.out
 ·go_enter Tryz.func48,Tryz.ntmps48
  go_wp2_with (go_at_call 73;((with_reducible refine (OC.out _).mono ?_);rintro e w1 ⟨rfl,rfl⟩))
  go_ret;exact tBool_mk (by rw [EE.out];rfl) HB.out
theorem cntL_bound (fs:List Fld) (hS:∀ f∈fs,0≤f.sz∧f.sz≤8):∀ s,0≤szI fs s∧szI fs s≤8:=by
 intro s;unfold szI szO;cases h:fs.find? (fun f=>ClM.same f.nm s) with
 | none=>simp
 | some f=>exact hS f (List.mem_of_find?_eq_some h)
def dpt:Nat→List It→Prop
 | 0,l=>l=[]
 | k+1,l=>∀ x∈l,dpt k x.it∧dpt k x.el
theorem cntL_le (fs:List Fld) (hS:∀ f∈fs,0≤f.sz∧f.sz≤8) (l:List It):∀ k,dpt k l→0≤cntL fs l∧cntL fs l≤(iszs l:Int)*8 ^ k:=by
 induction l using its_rec with
 | h0=>intro k _;rw [cntL_nil,iszs_nil];simp
 | h1 x r h1 h2 h3 =>
  intro k hk;cases k with
  | zero=>cases hk
  | succ k =>
   have hx:=hk x (by simp);have a1:=h1 k hx.1;have a2:=h2 k hx.2;have a3:=h3 (k+1) (fun y hy=>hk y (by simp [hy]));have hs:=cntL_bound fs hS x.nm;rw [cntL_cons,cntI_eq,iszs_cons,isz_eq];have p8:(1:Int)≤8 ^ k:=by
    have:(0:Int)<8 ^ k:=Int.pow_pos (by omega);omega
   have e1:((iszs x.it+iszs x.el+1+iszs r:Nat):Int)*8 ^ (k+1)=((iszs x.it:Int)*8 ^ k)*8+((iszs x.el:Int)*8 ^ k)*8+8 ^ k*8+(iszs r:Int)*8 ^ (k+1):=by
    rw [Int.pow_succ];simp only [Int.natCast_add,Int.add_mul,Int.one_mul,Int.natCast_one,Int.mul_assoc]
   rw [e1];have g1:0≤(iszs x.it:Int)*8 ^ k:=(by omega);have g2:0≤(iszs x.el:Int)*8 ^ k:=(by omega);generalize (iszs x.it:Int)*8 ^ k=A at *
   generalize (iszs x.el:Int)*8 ^ k=E at *
   generalize (iszs r:Int)*8 ^ (k+1)=R at *
   generalize (8:Int) ^ k=P at *
   split
   ·omega
   ·split
    ·have hm:0≤min (szI fs x.nm) 401∧min (szI fs x.nm) 401≤8:=(by omega);generalize min (szI fs x.nm) 401=m at *
     have m1:0≤cntL fs x.it*m:=Int.mul_nonneg a1.1 hm.1;have m2:cntL fs x.it*m≤A*8:=Int.mul_le_mul a1.2 hm.2 hm.1 g1;omega
    ·omega
end ItW
namespace ItW
open Go Go.RowKit NumM LexW LexM ExM ExW ItM
def ownX (xb:Nat) (W:World):Option Nat:=match W.cell? ⟨xb,1,none⟩ with | some v=>v.ownBlock | none=>none
def Av (xb:Nat) (W:World) (b:Nat):Prop:=b<W.heap.size∧b≠xb∧ownX xb W≠some b
structure KX (xb:Nat) (W W':World):Prop where
 sz:W.heap.size≤W'.heap.size
 keep:∀ b,Av xb W b→Av xb W' b∧W'.heap[b]? = W.heap[b]?
theorem KX.refl (xb:Nat) (W:World):KX xb W W:=⟨Nat.le_refl _,fun _ h=>⟨h,rfl⟩⟩
theorem KX.trans {xb:Nat} {A B C:World} (h:KX xb A B) (k:KX xb B C):KX xb A C :=
 ⟨Nat.le_trans h.sz k.sz,fun b hb=>⟨(k.keep b (h.keep b hb).1).1,(k.keep b (h.keep b hb).1).2.trans (h.keep b hb).2⟩⟩
theorem ownX_below {xb:Nat} {W W':World} (hx:xb<W.heap.size) (hb:Below W.heap.size W W'):ownX xb W'=ownX xb W:=by
 unfold ownX;rw [hb.cell (p:=⟨xb,1,none⟩) hx]
theorem KX.of_below {xb:Nat} {W W':World} (hx:xb<W.heap.size) (hb:Below W.heap.size W W'):KX xb W W' :=
 ⟨hb.size,fun b h=>⟨⟨Nat.lt_of_lt_of_le h.1 hb.size,h.2.1,by rw [ownX_below hx hb];exact h.2.2⟩,hb.block b h.1⟩⟩
theorem Av.new {xb:Nat} {W W':World} {b:Nat} (hx:xb<W.heap.size) (ho:∀ k,ownX xb W=some k→k<W.heap.size) (hb:Below W.heap.size W W') (h0:W.heap.size≤b) (h1:b<W'.heap.size):Av xb W' b :=
 ⟨h1,by omega,by rw [ownX_below hx hb];intro e;have:=ho _ e;omega⟩
theorem blk_eq {w w':World} {b:Nat} {xs:List Value} (h:Blk w b xs) (hb:w'.heap[b]? = w.heap[b]?):Blk w' b xs:=by
 have hl:b<w'.heap.size:=by
  have h1:=h.lt;rw [Array.getElem?_eq_getElem h1] at hb;exact (Array.getElem?_eq_some_iff.1 hb).1
 exact⟨hl,fun i x hx=>(World.cell?_of_block (w:=w) hb).trans (h.c i x hx),fun o=>(World.frozen?_of_block (w:=w) hb).trans (h.f o)⟩
structure FixC (xb:Nat) (w:World) (f:FuncId) (caps:Array Value) (σ:Ex→Ex):Prop where
 en:∀ (args:Array Value) (W:World),(callFunc f args).run Tryz.prog W=.ok (.enter f args) W
 c:∀ W,KX xb w W→∀ (N:Nat) (e:Ex) (v:Value),ExAt N W v e→N≤W.heap.size→sz e≤10000→Calls Tryz.prog f (#[v]++caps) W (tFr (σ e) W)
theorem FixC.later {xb:Nat} {w w':World} {f:FuncId} {caps:Array Value} {σ:Ex→Ex} (h:FixC xb w f caps σ) (k:KX xb w w'):FixC xb w' f caps σ:=⟨h.en,fun W hW=>h.c W (k.trans hW)⟩
theorem FixC.clone (xb:Nat) (w:World):FixC xb w 88 #[] (fun e=>e):=⟨enters_of Tryz.func88 (by kernel_rfl) rfl,fun W _ N e v hx hN hs=>by
 rw [Array.append_empty];exact cloneI_any e N W v hx hN hs⟩
structure Room4 (W:World) (g:Nat):Prop where
 lt:g<W.heap.size
 f:∀ o:Nat,W.frozen? ⟨g,o,none⟩=false
 c:∀ i:Nat,i<4→∃ v,W.cell? ⟨g,i,none⟩=some v
theorem Room4.of {W:World} {g:Nat} {x0 x1 x2 x3:Value} (h:Blk W g [x0,x1,x2,x3]):Room4 W g:=⟨h.lt,h.f,fun i hi=>⟨_,h.c i _ (List.getElem?_eq_getElem (by simp;omega))⟩⟩
theorem Room4.stay {W W':World} {g:Nat} (h:Room4 W g) (hb:Below W.heap.size W W'):Room4 W' g :=
 ⟨Nat.lt_of_lt_of_le h.lt hb.size,fun o=>(hb.frozen (p:=⟨g,o,none⟩) h.lt).trans (h.f o),fun i hi=>by obtain⟨v,hv⟩:=h.c i hi;exact⟨v,(hb.cell (p:=⟨g,i,none⟩) h.lt).trans hv⟩⟩
theorem Room4.put {W:World} {g i:Nat} {x:Value} (h:Room4 W g):Room4 (W.setCell ⟨g,i,none⟩ x) g :=
 ⟨by rw [setCell_size];exact h.lt,fun o=>by rw [World.frozen?_setCell];exact h.f o,fun j hj=>by
  obtain⟨v,hv⟩:=h.c j hj;by_cases e:i=j
  ·subst e;exact⟨x,cell_set hv⟩
  ·exact⟨v,by rw [other _ _ e];exact hv⟩⟩
theorem Room4.facts {W:World} {g:Nat} (h:Room4 W g):W.frozen? ⟨g,0,none⟩=false∧W.frozen? ⟨g,1,none⟩=false∧W.frozen? ⟨g,2,none⟩=false∧W.frozen? ⟨g,3,none⟩=false ∧
  (∃ v,W.cell? ⟨g,0,none⟩=some v)∧(∃ v,W.cell? ⟨g,1,none⟩=some v)∧(∃ v,W.cell? ⟨g,2,none⟩=some v)∧(∃ v,W.cell? ⟨g,3,none⟩=some v) :=
 ⟨h.f _,h.f _,h.f _,h.f _,h.c 0 (by decide),h.c 1 (by decide),h.c 2 (by decide),h.c 3 (by decide)⟩
theorem Room4.cells {W:World} {g:Nat} (h:Room4 W g) (x0 x1 x2 x3:Value):Blk ((((W.setCell ⟨g,0,none⟩ x0).setCell ⟨g,1,none⟩ x1).setCell ⟨g,2,none⟩ x2).setCell ⟨g,3,none⟩ x3) g [x0,x1,x2,x3]:=by
 obtain⟨v0,h0⟩:=h.c 0 (by decide);obtain⟨v1,h1⟩:=h.c 1 (by decide);obtain⟨v2,h2⟩:=h.c 2 (by decide);obtain⟨v3,h3⟩:=h.c 3 (by decide);have hb:Blk W g [v0,v1,v2,v3]:=⟨h.lt,fun i x hx=>by
  rcases i with _ | _ | _ | _ | i<;>simp at hx<;>subst hx<;>assumption,h.f⟩
 exact ((((hb.set 0 _ (by simp)).set 1 _ (by simp)).set 2 _ (by simp)).set 3 _ (by simp))
structure R1 (W:World) (b7 b9 b11:Nat) (fv:Value) (cs:List Value) (k:Int) (ecs:List Value) (W':World):Prop where
 h7:Blk W' b7 [fv]
 h9:Blk W' b9 cs
 h11:Blk W' b11 [.int .i64 k]
 he:Blk W' W.heap.size ecs
 rm:Room4 W' (W.heap.size+1)
 n7:b7<W.heap.size
 n9:b9<W.heap.size
 n11:b11<W.heap.size
 lo:Below W.heap.size W W'
theorem R1.stay {W V V':World} {b7 b9 b11:Nat} {fv:Value} {cs:List Value} {k:Int} {ecs:List Value} (h:R1 W b7 b9 b11 fv cs k ecs V) (hb:Below V.heap.size V V'):R1 W b7 b9 b11 fv cs k ecs V' :=
 ⟨h.h7.stay hb,h.h9.stay hb,h.h11.stay hb,h.he.stay hb,h.rm.stay hb,h.n7,h.n9,h.n11,h.lo.trans (hb.mono h.lo.size)⟩
theorem R1.put {W V:World} {b7 b9 b11 i:Nat} {fv x:Value} {cs:List Value} {k:Int} {ecs:List Value} (h:R1 W b7 b9 b11 fv cs k ecs V):R1 W b7 b9 b11 fv cs k ecs (V.setCell ⟨W.heap.size+1,i,none⟩ x) :=
 ⟨h.h7.far (by have:=h.n7;omega),h.h9.far (by have:=h.n9;omega),h.h11.far (by have:=h.n11;omega),h.he.far (by omega),h.rm.put,h.n7,h.n9,h.n11,h.lo.setCell (p:=⟨W.heap.size+1,i,none⟩) (by show W.heap.size≤W.heap.size+1;omega) _⟩
theorem R1.put4 {W V:World} {b7 b9 b11:Nat} {fv:Value} {cs:List Value} {k:Int} {ecs:List Value} (h:R1 W b7 b9 b11 fv cs k ecs V) (x0 x1 x2 x3:Value):R1 W b7 b9 b11 fv cs k ecs ((((V.setCell ⟨W.heap.size+1,0,none⟩ x0).setCell ⟨W.heap.size+1,1,none⟩ x1).setCell ⟨W.heap.size+1,2,none⟩ x2).setCell ⟨W.heap.size+1,3,none⟩ x3):=h.put.put.put.put
abbrev S1 (W:World) (b7 b9 b11:Nat) (f:FuncId) (caps:Array Value) (ix:ByteArray) (cs:List Value) (k o n:Int) (en:ByteArray) (x:Value) (W':World):Prop :=
 W'.cell? ⟨b7,0,none⟩=some (.func (.func f) #[] caps)∧W'.cell? ⟨b9,6,none⟩=some (.string ix)∧W'.cell? ⟨b11,0,none⟩=some (.int .i64 k) ∧
  W'.cell? ⟨W.heap.size,0,none⟩=some (.int .i64 o)∧W'.cell? ⟨W.heap.size,1,none⟩=some (.int .i64 n)∧W'.cell? ⟨W.heap.size,2,none⟩=some (.string en)∧W'.cell? ⟨W.heap.size,3,none⟩=some x ∧
  R1 W b7 b9 b11 (.func (.func f) #[] caps) cs k [.int .i64 o,.int .i64 n,.string en,x] W'
theorem S1.r {W:World} {b7 b9 b11:Nat} {f:FuncId} {caps:Array Value} {ix:ByteArray} {cs:List Value} {k o n:Int} {en:ByteArray} {x:Value} {W':World} (h:S1 W b7 b9 b11 f caps ix cs k o n en x W'):R1 W b7 b9 b11 (.func (.func f) #[] caps) cs k [.int .i64 o,.int .i64 n,.string en,x] W':=h.2.2.2.2.2.2.2
theorem S1.of {W:World} {b7 b9 b11:Nat} {f:FuncId} {caps:Array Value} {ix:ByteArray} {cs:List Value} {k o n:Int} {en:ByteArray} {x:Value} {W':World} (hc:cs[6]? = some (.string ix)) (h:R1 W b7 b9 b11 (.func (.func f) #[] caps) cs k [.int .i64 o,.int .i64 n,.string en,x] W'):S1 W b7 b9 b11 f caps ix cs k o n en x W' :=
 ⟨h.h7.c 0 _ rfl,h.h9.c 6 _ hc,h.h11.c 0 _ rfl,h.he.c 0 _ rfl,h.he.c 1 _ rfl,h.he.c 2 _ rfl,h.he.c 3 _ rfl,h⟩
theorem fr_put4 {w:World} {v:Value} {e:Ex} {g:Nat} (h:Fr (g+1) w v e) (x0 x1 x2 x3:Value):Fr (g+1) ((((w.setCell ⟨g,0,none⟩ x0).setCell ⟨g,1,none⟩ x1).setCell ⟨g,2,none⟩ x2).setCell ⟨g,3,none⟩ x3) v e:=(((h.set (by omega)).set (by omega)).set (by omega)).set (by omega)
theorem FixC.step {xb:Nat} {w:World} {f:FuncId} {caps:Array Value} {σ:Ex→Ex} (hf:FixC xb w f caps σ) (hσ:∀ e,sz (σ e)≤sz e) (hx:xb<w.heap.size) {b7 b9 b11:Nat} {cs:List Value} {ix:ByteArray} {k:Int}
  (h7:Blk w b7 [.func (.func f) #[] caps]) (h9:Blk w b9 cs) (hc:cs[6]? = some (.string ix)) (h11:Blk w b11 [.int .i64 k]) (a7:Av xb w b7) (a9:Av xb w b9) (a11:Av xb w b11) :
  FixC xb w 133 #[.pointer (some ⟨b7,0,none⟩),.pointer (some ⟨b9,0,none⟩),.pointer (some ⟨b11,0,none⟩)] (fun a=>su ix (cst k) (σ a)):=by
 refine⟨enters_of Tryz.func133 (by kernel_rfl) rfl,?_⟩;intro W hW N e v hx' hN hsz;have hen:=hf.en;obtain⟨p,cap,pl,cl,rfl,hs,ha⟩:=hx'.form;have HF:Hid (∀ V,Below W.heap.size W V→Calls Tryz.prog f (#[xv e.op e.n e.nm (.slice p e.args.length cap)]++caps) V (tFr (σ e) V)):=(Lh fun V hV=>hf.c V (hW.trans (KX.of_below (by have:=hW.sz;omega) hV)) N e _ (hx'.under (hV.mono hN)) (by have:=hV.size;omega) hsz);have SU:Hid (∀ V v,ExAt V.heap.size V v (σ e)→Calls Tryz.prog 134 #[v,.string ix,xv 1 k ⟨#[]⟩ (.slice none 0 0)] V (tFr (su ix (cst k) (σ e)) V)):=(Lh fun V v h=>substCode_any (σ e) (cst k) ix _ V v _ h (ExAt.mk (N:=V.heap.size) (w:=V) (o:=1) (n:=k) (s:=⟨#[]⟩) (ks:=[]) (p:=none) (cap:=0) (fun _=>none) (fun _=>0) (by decide) (by decide) (by decide) (fun h=>absurd h (by decide)) (fun i a h=>by rw [List.getElem?_nil] at h;cases h)) (Nat.le_refl _) (Nat.le_trans (hσ e) hsz) (by unfold cst;simp [sz,szs]));have B7:=blk_eq h7 (hW.keep b7 a7).2;have B9:=blk_eq h9 (hW.keep b9 a9).2;have B11:=blk_eq h11 (hW.keep b11 a11).2;have b12:=(ba W (.cells #[.int .i64 e.op,.int .i64 e.n,.string e.nm,.slice p e.args.length cap] 43)).then_ (ba _ (.cells #[.int .i64 0,.int .i64 0,.string ⟨#[]⟩,.slice none 0 0] 43));have E0:=(Blk.new W [.int .i64 e.op,.int .i64 e.n,.string e.nm,.slice p e.args.length cap] 43).alloc (.cells #[.int .i64 0,.int .i64 0,.string ⟨#[]⟩,.slice none 0 0] 43);have E1:=Blk.new (W.alloc (.cells #[.int .i64 e.op,.int .i64 e.n,.string e.nm,.slice p e.args.length cap] 43)) [.int .i64 0,.int .i64 0,.string ⟨#[]⟩,.slice none 0 0] 43;rw [World.size_alloc] at E1;have KP:=S1.of hc (R1.mk (B7.stay b12) (B9.stay b12) (B11.stay b12) E0 (.of E1) B7.lt B9.lt B11.lt b12);have EC:Hid (∀ V V',S1 W b7 b9 b11 f caps ix cs k e.op e.n e.nm (.slice p e.args.length cap) V→Below V.heap.size V V'→S1 W b7 b9 b11 f caps ix cs k e.op e.n e.nm (.slice p e.args.length cap) V'):=(Lh fun V V' h hb=>S1.of hc (h.r.stay hb));have EC2:Hid (∀ V x0 x1 x2 x3,S1 W b7 b9 b11 f caps ix cs k e.op e.n e.nm (.slice p e.args.length cap) V→S1 W b7 b9 b11 f caps ix cs k e.op e.n e.nm (.slice p e.args.length cap) ((((V.setCell ⟨W.heap.size+1,0,none⟩ x0).setCell ⟨W.heap.size+1,1,none⟩ x1).setCell ⟨W.heap.size+1,2,none⟩ x2).setCell ⟨W.heap.size+1,3,none⟩ x3)):=(Lh fun V x0 x1 x2 x3 h=>S1.of hc (h.r.put4 _ _ _ _));clear hf hσ h7 h9 h11 B7 B9 B11 b12 E0 E1 hx' ha hs hsz a7 a9 a11 hx hW hN hc;simp only [List.toArray] at KP;generalize su ix (cst k) (σ e)=E at *
 generalize σ e=F at *
 generalize e.op=o at *
 generalize e.n=n at *
 generalize e.nm=en at *
 generalize e.args.length=K at *
 go_enter Tryz.func133,Tryz.ntmps133
 go_wp2;obtain⟨W0,hW0⟩:∃ W0,(W.alloc (.cells #[.int .i64 o,.int .i64 n,.string en,.slice p K cap] 43)).alloc (.cells #[.int .i64 0,.int .i64 0,.string ⟨#[]⟩,.slice none 0 0] 43)=W0:=⟨_,rfl⟩;rw [hW0] at KP ⊢;clear hW0;have k1:=EC.out _ W0.drew KP (Below.refl _ _).drew
 have K1:Hid (∀ V,S1 W b7 b9 b11 f caps ix cs k o n en (.slice p K cap) V→Calls Tryz.prog f (#[xv o n en (.slice p K cap)]++caps) V fun x w'=>∃ q c,x=.returned (xv F.op F.n F.nm (.slice q F.args.length c))∧S1 W b7 b9 b11 f caps ix cs k o n en (.slice p K cap) w'∧Hid (ExAt w'.heap.size w' (xv F.op F.n F.nm (.slice q F.args.length c)) F)) :=
  Lh fun V h=>(HF.out V h.r.lo).mono fun x w' ⟨v,h1,h2,h3⟩=>by
   obtain⟨q,c,rfl,_⟩:=h2.form;exact⟨q,c,h1,EC.out _ _ h h3,Lh h2.at_⟩
 have K2:Hid (∀ V,S1 W b7 b9 b11 f caps ix cs k o n en (.slice p K cap) V→Calls Tryz.prog 135 #[.int .i64 k] V fun x w'=>x=.returned (xv 1 k ⟨#[]⟩ (.slice none 0 0))∧S1 W b7 b9 b11 f caps ix cs k o n en (.slice p K cap) w'∧Hid (Below V.heap.size V w')) :=
  Lh fun V h=>(constant_any k V).mono fun x w' ⟨h1,h2⟩=>⟨h1,EC.out _ _ h h2,Lh h2⟩
 have K3:Hid (∀ V v,S1 W b7 b9 b11 f caps ix cs k o n en (.slice p K cap) V→Hid (ExAt V.heap.size V v F)→Calls Tryz.prog 134 #[v,.string ix,xv 1 k ⟨#[]⟩ (.slice none 0 0)] V fun x w'=>∃ q c,x=.returned (xv E.op E.n E.nm (.slice q E.args.length c))∧S1 W b7 b9 b11 f caps ix cs k o n en (.slice p K cap) w'∧Hid (Fr (W.heap.size+2) w' (xv E.op E.n E.nm (.slice q E.args.length c)) E)) :=
  Lh fun V v h hv=>(SU.out V v hv.out).mono fun x w' ⟨v,h1,h2,h3⟩=>by
   obtain⟨q,c,rfl,_⟩:=h2.form;exact⟨q,c,h1,EC.out _ _ h h3,Lh (h2.low (by have:=h.r.rm.lt;omega))⟩
 have UP:Hid (∀ V V' v,Hid (ExAt V.heap.size V v F)→Hid (Below V.heap.size V V')→Hid (ExAt V'.heap.size V' v F)):=(Lh fun V V' v h hb=>Lh ((h.out.under hb.out).wide hb.out.size));clear SU HF EC
 go_region_held3 (fun V=>V.cell? ⟨b7,0,none⟩=some (.func (.func f) #[] caps)∧V.cell? ⟨b9,6,none⟩=some (.string ix)∧V.cell? ⟨b11,0,none⟩=some (.int .i64 k) ∧
  V.cell? ⟨W.heap.size,0,none⟩=some (.int .i64 o)∧V.cell? ⟨W.heap.size,1,none⟩=some (.int .i64 n)∧V.cell? ⟨W.heap.size,2,none⟩=some (.string en)∧V.cell? ⟨W.heap.size,3,none⟩=some (.slice p K cap) ∧
  R1 W b7 b9 b11 (.func (.func f) #[] caps) cs k [.int .i64 o,.int .i64 n,.string en,.slice p K cap] V)
  (first | with_reducible assumption | (refine EC2.out _ _ _ _ _ ?_;with_reducible assumption) | fail)
  (first
   | (go_at_call 135;(with_reducible refine (K2.out _ ?_).mono ?_);assumption;rintro x w6 ⟨rfl,hg6,hb6⟩)
   | (go_at_call 134;(with_reducible refine (K3.out _ _ ?_ ?_).mono ?_);assumption;(first | with_reducible exact hs5 | with_reducible exact UP.out _ _ _ hs5 hb6);rintro x w7 ⟨q7,c7,rfl,hg7,hs7⟩;obtain⟨z0,z1,z2,z3,⟨_,y0⟩,⟨_,y1⟩,⟨_,y2⟩,⟨_,y3⟩⟩:=hg7.r.rm.facts)
   | ((with_reducible refine (K1.out _ ?_).mono ?_);assumption;rintro x w5 ⟨q5,c5,rfl,hg5,hs5⟩))
 all_goals
  have HP:=hg7.r.rm.cells (.int .i64 E.op) (.int .i64 E.n) (.string E.nm) (.slice q7 E.args.length c7);have p0:=HP.c 0 _ rfl;have p1:=HP.c 1 _ rfl;have p2:=HP.c 2 _ rfl;have p3:=HP.c 3 _ rfl;have hl:=(hg7.r.put4 (.int .i64 E.op) (.int .i64 E.n) (.string E.nm) (.slice q7 E.args.length c7)).lo;have hr:=(fr_put4 (g:=W.heap.size+1) hs7.out (.int .i64 E.op) (.int .i64 E.n) (.string E.nm) (.slice q7 E.args.length c7)).low (lo':=W.heap.size) (by omega);clear K1 K2 K3 UP EC2 KP k1 HP hg5 hg6 hg7 hs5 hs7;go_wp2;exact bodyPost_ret (v:=xv E.op E.n E.nm (.slice q7 E.args.length c7)) (by simp [results,Tryz.results133,go_sem,p0,p1,p2,p3]) rfl ⟨_,rfl,hr,hl⟩
end ItW
namespace ItW
open Go Go.RowKit Go.«Sort» NumM LexW LexM ExM ExW ItM
open ClM (Fld)
theorem countOf_any (fb:Nat) (fs:List Fld) (hS:∀ f∈fs,0≤f.sz∧f.sz≤8) (x:It) (a4 a7 a8 a9 a10 a11:Value) (N:Nat) (w:World) (hf:FsA w fb fs) (h:IV N w a4 a7 a8 a9 a10 a11 x)
  (b1:0≤cntL fs x.it∧cntL fs x.it≤1000000000000) (b2:0≤cntL fs x.el∧cntL fs x.el≤1000000000000)
  (C1:∀ W,Below w.heap.size w W→Calls Tryz.prog 86 #[.map (some fb),a8] W (tInt (cntL fs x.it) W)) (C2:∀ W,Below w.heap.size w W→Calls Tryz.prog 86 #[.map (some fb),a9] W (tInt (cntL fs x.el) W)) :
  Calls Tryz.prog 131 #[.map (some fb),iv x.kd x.e.op x.e.n x.e.nm a4 x.nm x.ix a7 a8 a9 a10 a11] w (tInt (cntI fs x) w):=by
 have hl0:∀ W,Below w.heap.size w W→(Instr.lookup 79 (.map (some fb)) (.string x.nm) false).run Tryz.prog W=.ok (.int .i64 (szI fs x.nm)) W:=(fun W hW=>(hf.later hW).look x.nm h.nm);have hsb:=cntL_bound fs hS x.nm;have EE:Hid (cntI fs x=if x.kd=4 then cntL fs x.it+cntL fs x.el else if x.kd=5 then cntL fs x.it*min (szI fs x.nm) 401 else 1):=Lh (cntI_eq fs x);obtain⟨kd,o,n,en,p4,k4,c4,nm,ix,p7,k7,c7,p8,k8,c8,p9,k9,c9,p10,k10,c10,p11,k11,c11,ev,hv⟩:=h.open_;have ev2:=ev;simp only [Value.agg.injEq,Array.mk.injEq,List.cons.injEq] at ev2;obtain⟨-,-,-,-,rfl,-,-,rfl,rfl,rfl,rfl,rfl,-⟩:=ev2;rw [ev];rw [hv.e5] at hl0 hsb;have EE2:=EE.out;rw [hv.e0,hv.e5] at EE2;have EE:=Lh EE2;clear EE2;obtain⟨cs,hcs⟩:∃ cs,cs=ics kd o n en (.slice p4 k4 c4) nm ix (.slice p7 k7 c7) (.slice p8 k8 c8) (.slice p9 k9 c9) (.slice p10 k10 c10) (.slice p11 k11 c11):=⟨_,rfl⟩;have F0:=Blk.new w cs 55;have HB:=Lh (ba w (.cells cs.toArray 55));have E1:=reB (v:=.int .i64 (cntL fs x.it)) (fun W hW=>C1 W (HB.out.then_ hW));have E2:=reB (v:=.int .i64 (cntL fs x.el)) (fun W hW=>C2 W (HB.out.then_ hW));have HC1:=Lh (C1 _ HB.out);have hlk:=hl0 _ HB.out;have HL:=Lh hl0;subst hcs;have d0:=F0.c 0 _ rfl;have d5:=F0.c 5 _ rfl;have d8:=F0.c 8 _ rfl;have d9:=F0.c 9 _ rfl;have HF:=Lh F0;clear F0 ev hv h hl0 C1 C2;generalize cntL fs x.it=A at *
 generalize cntL fs x.el=B at *
 generalize szI fs nm=z at *
 by_cases h4:kd=4
 ·subst h4;have E:Hid (A+B=cntI fs x):=Lh (by rw [EE.out];rfl);have m8:=cell_regrown d8;have m9:=cell_regrown d9
  go_enter Tryz.func131,Tryz.ntmps131
  go_wp2;refine wp_region_quiet_below (by kernel_rfl) (by kernel_rfl) ?_;repeat (first | go_big_quiet_step ((go_at_call 86;first | with_reducible exact E1 _ _ | with_reducible exact E2 _ _)) | quiet_step ((go_at_call 86;first | with_reducible exact E1 _ _ | with_reducible exact E2 _ _)))
  refine wpQuiet_nil ?_;intro w4 hw';obtain⟨pq,hw''⟩:=hw';have HX:=Lh (HB.out.then_ (by rw [hw''];exact below_regrown _ _ _:Below _ _ w4));clear hw'' E1 E2 m8 m9;go_wp2;go_ret;exact ExW.tInt_mk E.out HX.out
 ·have f4:(kd == 4)=false:=(by rw [beq_eq_false_iff_ne];exact h4);by_cases h5:kd=5
  ·subst h5;have E:Hid (A*min z 401=cntI fs x):=Lh (by rw [EE.out];rfl);have hmin:min z 401=z:=(by omega);rw [hmin] at E;have hz0:=hsb.1;have hz8:=hsb.2;have hm1:0≤A*z:=Int.mul_nonneg b1.1 hz0;have hm2:A*z≤1000000000000*8:=Int.mul_le_mul b1.2 hz8 hz0 (by omega);obtain⟨M,hM⟩:∃ M,A*z=M:=⟨_,rfl⟩;have m8:=cell_regrown d8;have m5:=cell_regrown d5;have hlkR:∀ d os,(Instr.lookup 79 (.map (some fb)) (.string nm) false).run Tryz.prog (grow (redrawn (w.alloc (.cells (ics 5 o n en (.slice p4 k4 c4) nm ix (.slice p7 k7 c7) (.slice p8 k8 c8) (.slice p9 k9 c9) (.slice p10 k10 c10) (.slice p11 k11 c11)).toArray 55)) d) os)=.ok (.int .i64 z) (grow (redrawn (w.alloc (.cells (ics 5 o n en (.slice p4 k4 c4) nm ix (.slice p7 k7 c7) (.slice p8 k8 c8) (.slice p9 k9 c9) (.slice p10 k10 c10) (.slice p11 k11 c11)).toArray 55)) d) os):=(fun d os=>HL.out _ (HB.out.then_ (below_regrown _ d os)));clear h4 f4
   go_enter Tryz.func131,Tryz.ntmps131
   go_wp2;refine wp_region_quiet_below (by kernel_rfl) (by kernel_rfl) ?_;repeat (first | go_big_quiet_step ((go_at_call 86;with_reducible exact E1 _ _)) | quiet_step ((go_at_call 86;with_reducible exact E1 _ _)))
   refine wpQuiet_nil ?_;intro w4 hw';obtain⟨pq,hw''⟩:=hw';have HX:=Lh (HB.out.then_ (by rw [hw''];exact below_regrown _ _ _:Below _ _ w4));clear hw'' E1 E2 m8 m5 hlkR;go_wp2;go_ret;exact ExW.tInt_mk (by rw [←E.out,hM]) HX.out
  ·have E:Hid (1=cntI fs x):=Lh (by rw [EE.out,if_neg h4,if_neg h5]);have f5:(kd == 5)=false:=(by rw [beq_eq_false_iff_ne];exact h5);clear h4 h5
   go_enter Tryz.func131,Tryz.ntmps131
   go_wp2;go_ret;exact ExW.tInt_mk E.out HB.out
theorem cntL_take {fs:List Fld} {k:Nat} {l:List It} {a:It} (h:l[k]? = some a):cntL fs (l.take (k+1))=cntL fs (l.take k)+cntI fs a:=by
 obtain⟨hk,he⟩:=List.getElem?_eq_some_iff.1 h;rw [List.take_succ_eq_append_getElem hk,he];have:∀ (x y:List It),cntL fs (x++y)=cntL fs x+cntL fs y:=by
  intro x y;induction x with
  | nil=>rw [List.nil_append,cntL_nil];omega
  | cons b r ih=>rw [List.cons_append,cntL_cons,cntL_cons,ih];omega
 rw [this,cntL_cons,cntL_nil];omega
theorem dpt_take {k:Nat} {l:List It} (h:dpt k l) (j:Nat):dpt k (l.take j):=by
 cases k with
 | zero =>
  have h0:l=[]:=h;subst h0;rw [List.take_nil];rfl
 | succ k=>exact fun x hx=>h x (List.mem_of_mem_take hx)
theorem count_any (fb:Nat) (fs:List Fld) (hS:∀ f∈fs,0≤f.sz∧f.sz≤8) (l:List It):∀ (k:Nat) (v:Value) (N:Nat) (w:World),dpt k l→k≤6→iszs l≤10000→FsA w fb fs→ItsA N w v l→N≤w.heap.size →
  Calls Tryz.prog 86 #[.map (some fb),v] w (tInt (cntL fs l) w):=by
 induction l using its_ind with
 | h l ih =>
  intro k v N w hd hk hz hf hx hN;obtain⟨p,cap,V,rfl,hr⟩:=hx.form;have hl:=hr.hl;have HR:=Lh hr;have HF:=Lh hf;have HIH:=Lh ih;have HD:=Lh hd;have hbk:(8:Int) ^ k≤262144:=by
   have:k=0∨k=1∨k=2∨k=3∨k=4∨k=5∨k=6:=(by omega);rcases this with rfl | rfl | rfl | rfl | rfl | rfl | rfl<;>decide
  have HBD:Hid (∀ m:List It,∀ j,dpt j m→j≤6→iszs m≤10000→0≤cntL fs m∧cntL fs m≤1000000000000):=Lh (fun m j hm hj hzm=>by
   have h1:=cntL_le fs hS m j hm;have h2:(8:Int) ^ j≤262144:=by
    have:j=0∨j=1∨j=2∨j=3∨j=4∨j=5∨j=6:=(by omega);rcases this with rfl | rfl | rfl | rfl | rfl | rfl | rfl<;>decide
   have h3:(iszs m:Int)*8 ^ j≤10000*262144:=Int.mul_le_mul (by omega) h2 (Int.le_of_lt (Int.pow_pos (by omega))) (by omega);omega)
  obtain⟨K,hK⟩:∃ K,l.length=K:=⟨_,rfl⟩;have HK:=Lh hK;rw [hK] at hl ⊢;have hk47:K≤140737488351232:=(by omega);clear hK hr ih hx hf hd hbk;have HB0:=Lh (Below.refl w.heap.size w)
  go_enter Tryz.func86,Tryz.ntmps86
  go_wp2;go_loopw [5,10] (fun t i wr=>∃ j:Nat,j≤K∧i=.int .i64 j∧t=.int .i64 (cntL fs (l.take j))∧Hid (Below w.heap.size w wr)) (fun _ i _=>K - (intOf i).toNat)
  case atStart=>exact⟨0,Nat.zero_le _,rfl,by rw [List.take_zero,cntL_nil],HB0⟩
  case round =>
   obtain⟨j,hj,rfl,rfl,BW⟩:=hrel;by_cases hlt:j<K
   ·obtain⟨a,ha⟩:∃ a,l[j]? = some a:=⟨_,List.getElem?_eq_getElem (by rw [HK.out];exact hlt)⟩;have hbw:Below N w wr:=BW.out.mono hN;have hr2:=HR.out.under hbw;obtain⟨b,off,rfl,hb,hcell⟩:=hr2.hp (by rw [HK.out];omega);have hva:=hr2.hv j a ha;obtain⟨g0,g1,g2,g3,g4,g5,g6,g7,g8,g9,g10,g11⟩:=hcell j a ha;have hmem:=List.mem_of_getElem? ha;have hsa:=iszs_take ha;have hsb:=iszs_take_le (j+1) l;have hse:=isz_eq a;have hkd:∃ k',dpt k' a.it∧dpt k' a.el∧k'≤6:=by
     cases k with
     | zero=>have:=HD.out;have h0:l=[]:=this;rw [h0] at hmem;cases hmem
     | succ k=>exact⟨k,(HD.out a hmem).1,(HD.out a hmem).2,by omega⟩
    obtain⟨k',hd1,hd2,hk'⟩:=hkd;have CO:∀ W,Below wr.heap.size wr W→Calls Tryz.prog 131 #[.map (some fb),iv a.kd a.e.op a.e.n a.e.nm (V j 4) a.nm a.ix (V j 7) (V j 8) (V j 9) (V j 10) (V j 11)] W (tInt (cntI fs a) W):=fun W hW=>by
     have hNW:N≤wr.heap.size:=(by have:=BW.out.size;omega);have hW2:=hW.mono hNW;refine countOf_any fb fs hS a _ _ _ _ _ _ N W ((HF.out.later BW.out).later hW) (hva.under hW2) (HBD.out a.it k' hd1 hk' (by omega)) (HBD.out a.el k' hd2 hk' (by omega)) (fun W' hW'=>?_) (fun W' hW'=>?_)
     ·exact (HIH.out a hmem).1 k' _ N W' hd1 hk' (by omega) (((HF.out.later BW.out).later hW).later hW') ((hva.its.under hW2).under (hW'.mono (by have:=hW.size;omega))) (by have:=hW.size;have:=hW'.size;omega)
     ·exact (HIH.out a hmem).2 k' _ N W' hd2 hk' (by omega) (((HF.out.later BW.out).later hW).later hW') ((hva.els.under hW2).under (hW'.mono (by have:=hW.size;omega))) (by have:=hW.size;have:=hW'.size;omega)
    obtain⟨p4,k4,p7,k7,p8,k8,p9,k9,p10,k10,p11,k11,e4,e7,e8,e9,e10,e11⟩:=hva.slices;rw [e4] at g4;rw [e7] at g7;rw [e8] at g8;rw [e9] at g9;rw [e10] at g10;rw [e11] at g11;rw [e4,e7,e8,e9,e10,e11] at CO;have CO:=Lh (CO _ (ba wr (.cells (ics a.kd a.e.op a.e.n a.e.nm (.slice p4 a.e.args.length k4) a.nm a.ix (.slice p7 a.ws.length k7) (.slice p8 a.it.length k8) (.slice p9 a.el.length k9) (.slice p10 a.bf.length k10) (.slice p11 a.af.length k11)).toArray 55)));have HB1:=Lh (BW.out.then_ (ba wr (.cells (ics a.kd a.e.op a.e.n a.e.nm (.slice p4 a.e.args.length k4) a.nm a.ix (.slice p7 a.ws.length k7) (.slice p8 a.it.length k8) (.slice p9 a.el.length k9) (.slice p10 a.bf.length k10) (.slice p11 a.af.length k11)).toArray 55)));have hct:=cntL_take (fs:=fs) ha;have hb1:=HBD.out (l.take j) k (dpt_take HD.out j) hk (by have:=iszs_take_le j l;omega);have hb2:=HBD.out (l.take (j+1)) k (dpt_take HD.out (j+1)) hk (by have:=iszs_take_le (j+1) l;omega);have HCT:=Lh hct;have hb3:0≤cntL fs (l.take j)+cntI fs a∧cntL fs (l.take j)+cntI fs a≤1000000000000:=(by rw [←hct];exact hb2);clear hct hb2 hcell hva hbw e4 e7 e8 e9 e10 e11 hr2;generalize cntL fs (l.take j)=T0 at *
    generalize cntI fs a=T1 at *
    go_wp2_with (go_at_call 131;((with_reducible refine CO.out.mono ?_);rintro e w1 ⟨rfl,hb1'⟩;have HB2:=Lh (HB1.out.then_ hb1');clear hb1'))
    go_roundw
    case rel=>exact⟨j+1,by omega,by go_num,by rw [HCT.out],HB2⟩
    case measure=>simp [intOf];omega
   ·have HT:Hid (cntL fs (l.take j)=cntL fs l):=Lh (by rw [List.take_of_length_le (by rw [HK.out];omega)]);go_wp2;go_ret;exact ExW.tInt_mk HT.out BW.out
end ItW
end Go.Proofs.YtpejflgdehioaaaGreatDoor
