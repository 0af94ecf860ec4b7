/-
  Laws that the card uses; no conditions beside those that each states (ExShape ExValid ExBuild ExSig ExComp ExValue ExRefA ExNames ExOver).
-/
import Derived.Deep.RegionWith
import Derived.Deep.DeepCutAuto
import Derived.OwnWalk
import Derived.Maps.OwnIn
import Derived.Maps.AppendAt
import Derived.Maps.Views
import Derived.Deep.AppendLies
import Derived.Deep.RegionLaw
import Derived.Test.YtihnejaopejbgaaGreatDoorP10
import Derived.Test.YtihnejaopejbgaaGreatDoorP11
set_option maxRecDepth 100000
set_option maxHeartbeats 16000000
namespace Go.Proofs.YtihnejaopejbgaaGreatDoor
namespace ExW
open Go Go.RowKit Go.Shelf LexW LexM ExM
attribute [local go_sem] Oper.semAt_some
theorem keep_t {n₀ n₁:Nat} {A B C:World} (h:Keep n₀ n₁ A B) (k:Keep n₀ n₁ B C):Keep n₀ n₁ A C:=h.trans k
theorem keep_b {n₀ n₁:Nat} {w:World} (W:World) (l:Nat) (o o':Obj) (_:w.heap.size≤l) (h:W.heap[l]? = some o) (hc:o.isCells=false) (_:o.isWalk=false):Keep n₀ n₁ W (W.putObj l o'):=Keep.putObj W l o o' h hc
theorem zip2 (a b:Nat) (u v:Value) (t:Array Value):Array.foldl (fun t (x:Tmp × Value)=>t.setIfInBounds x.1 x.2) t ((#[a,b]:Array Tmp).zip #[u,v])=(t.setIfInBounds a u).setIfInBounds b v:=by
 simp [Array.zip,Array.zipWith,Array.zipWithMAux]
end ExW
namespace ExW
open Go Go.RowKit Go.Shelf NumM LexW LexM ExM
attribute [local go_sem] Oper.semAt_some
theorem four_own (B g:Nat) (x0 x1 x2 x3:Value):OwnFrom B (fun (_:Unit) W=>Four W g x0 x1 x2 x3):=fun _ X _ row hs hg hr=>by
 have hne:some g≠row:=fun e=>by
  obtain⟨_,ob,ho,hc⟩:=hr g e.symm;have:=hs.c0;simp only [World.cell?,ho] at this;cases ob<;>simp_all [Obj.isCells]
 have hb:=hg.block g hs.lt hne;exact⟨Nat.lt_of_lt_of_le hs.lt hg.size,(World.cell?_of_block (w:=X) hb).trans hs.c0,(World.cell?_of_block (w:=X) hb).trans hs.c1,(World.cell?_of_block (w:=X) hb).trans hs.c2,(World.cell?_of_block (w:=X) hb).trans hs.c3,
  (World.frozen?_of_block (w:=X) hb).trans hs.f0,(World.frozen?_of_block (w:=X) hb).trans hs.f1,(World.frozen?_of_block (w:=X) hb).trans hs.f2,(World.frozen?_of_block (w:=X) hb).trans hs.f3⟩
theorem bxStay {W W':World} {B:Nat} {t:TypeId} {v:Value} (h:Boxed W B t v) (hb:Below W.heap.size W W'):Boxed W' B t v:=(hb.block B h.lt).trans h
theorem keepsFrom_below {B:Nat} {W W':World} (h:Below W.heap.size W W'):KeepsFrom B W W' :=
 ⟨h.size,fun k _ _ hk _=>(h.block k (Array.getElem?_eq_some_iff.1 hk).1).trans hk⟩
theorem valid_any (e:Ex) (v:Value) (w:World) (hx:ExAt w.heap.size w v e) (hsz:sz e≤2000000) (ht:Tab w) :
  Calls Tryz.prog 80 #[v] w (tInt (vld e) w):=by
 obtain⟨p,cap,pl,cl,rfl,hs,ha⟩:=hx.form;have HX:=Lh hx;have HT:=Lh ht;clear hx ha ht;generalize e.op=o at *
 generalize e.n=num at *
 generalize e.nm=s at *
 generalize e.args.length=K at *
 refine (callsIn_wide (n:=9)).1 ?_;refine callsIn_of_wp_marks Tryz.func80 rfl trivial ?_ rfl;simp only [Tryz.ntmps80,List.size_toArray,List.length_cons,List.length_nil,Nat.reduceAdd,Nat.reduceSub,Array.replicate_succ,Array.replicate_zero,List.push_toArray,List.append_toArray,List.nil_append,List.cons_append]
 gi_wp2_with (refine⟨trivial,?_⟩;gi_at_call 113;refine (nodes_in Fence.wide _ trivial rfl _ _ _ _ _).mono ?_;rintro e w' ⟨rfl,rfl⟩)
 have bR:=(((Boxed.new (w.alloc (.cells #[.int .i64 o,.int .i64 num,.string s,.slice p K cap] 51)) 40 (.int .i64 0)).alloc (.cells #[.int .i64 0] 3)).alloc (.cells #[.int .i64 0] 3)).alloc (.cells #[.int .i64 o,.int .i64 num,.string s,.slice p K cap] 51);have bS:=((Boxed.new ((w.alloc (.cells #[.int .i64 o,.int .i64 num,.string s,.slice p K cap] 51)).alloc (.cells #[.int .i64 0] 40)) 3 (.int .i64 0)).alloc (.cells #[.int .i64 0] 3)).alloc (.cells #[.int .i64 o,.int .i64 num,.string s,.slice p K cap] 51);have bD:=(Boxed.new (((w.alloc (.cells #[.int .i64 o,.int .i64 num,.string s,.slice p K cap] 51)).alloc (.cells #[.int .i64 0] 40)).alloc (.cells #[.int .i64 0] 3)) 3 (.int .i64 0)).alloc (.cells #[.int .i64 o,.int .i64 num,.string s,.slice p K cap] 51);have bA:=Four.new ((((w.alloc (.cells #[.int .i64 o,.int .i64 num,.string s,.slice p K cap] 51)).alloc (.cells #[.int .i64 0] 40)).alloc (.cells #[.int .i64 0] 3)).alloc (.cells #[.int .i64 0] 3)) (.int .i64 o) (.int .i64 num) (.string s) (.slice p K cap) 51;have hB0:Below w.heap.size w (((((w.alloc (.cells #[.int .i64 o,.int .i64 num,.string s,.slice p K cap] 51)).alloc (.cells #[.int .i64 0] 40)).alloc (.cells #[.int .i64 0] 3)).alloc (.cells #[.int .i64 0] 3)).alloc (.cells #[.int .i64 o,.int .i64 num,.string s,.slice p K cap] 51)):=(((((Below.refl _ w).alloc (Nat.le_refl _) _).alloc (by simp) _).alloc (by simp;omega) _).alloc (by simp;omega) _).alloc (by simp;omega) _;have hz:(((((w.alloc (.cells #[.int .i64 o,.int .i64 num,.string s,.slice p K cap] 51)).alloc (.cells #[.int .i64 0] 40)).alloc (.cells #[.int .i64 0] 3)).alloc (.cells #[.int .i64 0] 3)).alloc (.cells #[.int .i64 o,.int .i64 num,.string s,.slice p K cap] 51)).heap.size=w.heap.size+5:=(by simp);simp only [World.size_alloc,Nat.add_assoc,Nat.reduceAdd] at bR bS bD bA;simp only [Nat.add_assoc,Nat.reduceAdd];obtain⟨W0,hW0⟩:∃ W0,(((((w.alloc (.cells #[.int .i64 o,.int .i64 num,.string s,.slice p K cap] 51)).alloc (.cells #[.int .i64 0] 40)).alloc (.cells #[.int .i64 0] 3)).alloc (.cells #[.int .i64 0] 3)).alloc (.cells #[.int .i64 o,.int .i64 num,.string s,.slice p K cap] 51))=W0:=⟨_,rfl⟩;rw [hW0] at bR bS bD bA hB0 hz ⊢;clear hW0
 refine wpIn_rangeFunc_ownH rfl (by decide) (gf:=130) (lb:=#[.pointer (some ⟨w.heap.size+4,0,none⟩)]) rfl trivial (enters_of Tryz.func130 (by kernel_rfl) rfl)
  (nodes_stops Fence.wide rfl _ trivial trivial rfl w.heap.size (w.heap.size+4) (w.heap.size+4) (by omega) e hsz o num s (.slice p K cap) W0 (by omega) bA (HX.out.under hB0)) keep_t keep_b (Below.refl _ _) (fun _=>rfl)
  (fun bef W=>(((Boxed W (w.heap.size+2) 3 (.int .i64 bef.length)∧Boxed W (w.heap.size+3) 3 (.int .i64 (mxL (bef.map Nd.info))))∧Boxed W (w.heap.size+1) 40 (.int .i64 0))∧fstE (bef.map Nd.info)=0)∧Below w.heap.size W0 W)
  (fun c bef W=>(Boxed W (w.heap.size+1) 40 (.int .i64 (fstE (bef.map Nd.info)))∧(c=.ret∧fstE (bef.map Nd.info)≠0))∧Below w.heap.size W0 W)
  (OwnFrom.and (OwnFrom.and (OwnFrom.and (OwnFrom.and (Own.from (boxed_own _ _ _) _) (Own.from (boxed_own _ _ _) _)) (Own.from (boxed_own _ _ _) _)) (ownFrom_pure _ _)) (ownFrom_below (by omega) (by omega)))
  (fun c=>OwnFrom.and (OwnFrom.and (Own.from (boxed_own _ _ _) _) (ownFrom_pure _ _)) (ownFrom_below (by omega) (by omega)))
  ⟨⟨⟨⟨bS,bD⟩,bR⟩,rfl⟩,Below.refl _ _⟩
  (fun x a' W=>∃ g,a' = { tmps:=#[xv o num s (.slice p K cap),.pointer (some ⟨w.heap.size,0,none⟩),.pointer (some ⟨w.heap.size+1,0,none⟩),.pointer (some ⟨w.heap.size+2,0,none⟩),.pointer (some ⟨w.heap.size+3,0,none⟩),.int .i64 x.lv,.pointer (some ⟨g,0,none⟩),undef,xv o num s (.slice p K cap),.func (.func 130) #[] #[.pointer (some ⟨w.heap.size+4,0,none⟩)],.int .i64 x.lv,xv x.op x.n x.nm (.slice x.p x.k x.cap),undef,undef,undef,undef,undef,undef,undef,undef,undef,undef,undef,undef,undef,undef,undef,undef],defers:=[] }∧Four W g (.int .i64 x.op) (.int .i64 x.n) (.string x.nm) (.slice x.p x.k x.cap))
  (fun x a' _ X Y row hs hg hr=>by obtain⟨g,h1,h2⟩:=hs;exact⟨g,h1,four_own _ g _ _ _ _ () X Y row h2 hg hr⟩)
  ?assign ?body ?done ?stop
 case assign =>
  rintro l bef x W K ⟨⟨⟨⟨bS1,bD1⟩,bR1⟩,hf1⟩,hB1⟩ hK;have hWs:=hB1.size;have hb2:Below W.heap.size W (W.alloc (.cells #[.int .i64 x.op,.int .i64 x.n,.string x.nm,.slice x.p x.k x.cap] 51)):=(Below.refl _ _).alloc (Nat.le_refl _) _;have hlt:=bD1.lt;have hK2:=hK _ _ (keepsFrom_below hb2) (Keep.of_below hb2) ⟨⟨⟨⟨bxStay bS1 hb2,bxStay bD1 hb2⟩,bxStay bR1 hb2⟩,hf1⟩,hB1.trans (hb2.mono (by omega))⟩ ⟨W.heap.size,rfl,Four.new W _ _ _ _ 51⟩;rw [zip2]
  gi_wp2
  exact hK2
 case body =>
  rintro l bef x a' W hl _ ⟨⟨⟨⟨bS1,bD1⟩,bR1⟩,hf1⟩,hB1⟩ ⟨g,rfl,fX⟩ hlt;have hWs:=hB1.size;have hFS:=Lh (fst_snoc (bef.map Nd.info) x.info);have hMX:Hid (mxL ((bef++[x]).map Nd.info)=max (mxL (bef.map Nd.info)) x.lv):=Lh (by rw [List.map_append,mx_append,List.map_cons,List.map_nil,mx_one];rfl);have hMP:Hid ((bef++[x]).map Nd.info=bef.map Nd.info++[x.info]):=Lh (by rw [List.map_append];rfl);have FC:Hid (∀ n,CallsIn (Fence.wide.inRound l) n Tryz.prog 114 #[xv x.op x.n x.nm (.slice x.p x.k x.cap)] W (tInt (fltS x.info) W)):=(Lh fun n=>CallsIn.inRound l (callsIn_wide.2 (fault_any x.op x.n x.nm x.p x.k x.cap W x.hs x.hk (HT.out.later (hB0.trans hB1)))));have hbl:bef.length≤2000000:=(by omega);have x0:=fX.c0;have x1:=fX.c1;have x2:=fX.c2;have x3:=fX.c3;have fR:=bR1.frozen;have l1:=bR1.lt;have l2:=bS1.lt;have l3:=bD1.lt;have BS:=Lh bS1;have BD:=Lh bD1;have BR:=Lh bR1;have HB1:=Lh hB1;have HF1:=Lh hf1;have hxl:=x.hl;clear fX bS1 bD1 bR1 hB1 hf1;by_cases hf:fltS x.info=0
  ·rw [hf] at FC;have HE:Hid (fstE ((bef++[x]).map Nd.info)=0):=Lh (by rw [hMP.out,hFS.out,HF1.out,if_pos rfl,hf]);clear hf;generalize mxL (bef.map Nd.info)=d at *
   have hmx:Hid (((max d x.lv:Nat):Int)=max (d:Int) (x.lv:Int)):=Lh (by omega)
   gi_wp2_with (refine⟨trivial,?_⟩;gi_at_call 114;refine (FC.out _).mono ?_;rintro e w1 ⟨rfl,hb⟩;have bS2:=bxStay BS.out hb;have bD2:=bxStay BD.out hb;have bR2:=bxStay BR.out hb;have cS:=bS2.cell;have cD:=bD2.cell;have fS:=bS2.frozen;have fD:=bD2.frozen;have HB:=Lh hb;have BS2:=Lh bS2;have BD2:=Lh bD2;have BR2:=Lh bR2;clear hb bS2 bD2 bR2)
   refine⟨((keepsFrom_below HB.out).trans ((KeepsOthers.setCell _ _ _).from _)).trans ((KeepsOthers.setCell _ _ _).from _),((Keep.of_below HB.out).set (by omega) (by omega) _).set (by omega) (by omega) _,⟨⟨⟨⟨?_,?_⟩,(BR2.out.other (by omega) _).other (by omega) _⟩,HE.out⟩,((HB1.out.trans (HB.out.mono (by omega))).setCell (p:=⟨w.heap.size+2,0,none⟩) (by simp) _).setCell (p:=⟨w.heap.size+3,0,none⟩) (by simp) _⟩⟩
   ·rw [List.length_append];exact (BS2.out.set _).other (by omega) _
   ·rw [hMX.out,hmx.out];exact (BD2.out.other (by omega) _).set _
  ·have HE:Hid (fstE ((bef++[x]).map Nd.info)=fltS x.info):=Lh (by rw [hMP.out,hFS.out,HF1.out,if_pos rfl]);generalize fltS x.info=E at *
   have hE:(E != 0)=true:=(by simpa using hf);have HNE:=Lh hf;clear hf
   gi_wp2_with (refine⟨trivial,?_⟩;gi_at_call 114;refine (FC.out _).mono ?_;rintro e w1 ⟨rfl,hb⟩;have bR2:=bxStay BR.out hb;have cR:=bR2.cell;have fR2:=bR2.frozen;have HB:=Lh hb;have BR2:=Lh bR2;clear hb bR2)
   refine⟨(keepsFrom_below HB.out).trans ((KeepsOthers.setCell _ _ _).from _),⟨?_,rfl,by rw [HE.out];exact HNE.out⟩,(HB1.out.trans (HB.out.mono (by omega))).setCell (p:=⟨w.heap.size+1,0,none⟩) (by simp) _⟩;rw [HE.out];exact BR2.out.set _
 case done =>
  rintro D zs W hD hzs ⟨⟨⟨⟨bS1,bD1⟩,bR1⟩,hf1⟩,hB1⟩ hK;have hl:mxL (zs.map Nd.info)=dep e:=(by rw [hzs];have:=pre_mx e 1;omega);have hl2:zs.length=sz e:=(by rw [←pre_len e 1,←hzs,List.length_map]);have hlz:(pre 1 e).length=sz e:=pre_len e 1;have HV:Hid (vld e=if 24<dep e∨400<sz e then 2 else 0):=Lh (by unfold vld vldL;rw [←hzs,if_pos hf1,hl,List.length_map,hl2]);have HBW:=Lh (hB0.trans hB1);rw [hl] at bD1;rw [hl2] at bS1;have cS:=bS1.cell;have cD:=bD1.cell;have cR:=bR1.cell;have fR:=bR1.frozen;have HK:=Lh hK;clear bS1 bD1 hl hl2 hzs hf1 hlz hB1;by_cases h1:24<dep e
  ·have q1:decide (24<(dep e:Int))=true:=(by rw [decide_eq_true_eq];omega);have HV2:Hid (vld e=2):=Lh (by rw [HV.out,if_pos (.inl h1)]);clear h1
   gi_wp2
   have hK':=(KeepsOthers.setCell W ⟨w.heap.size+1,0,none⟩ (.int .i64 2)).same D _ HK.out rfl;refine⟨by simp,.inl ⟨_,_,rfl,run_takeDeferred hK',?_⟩⟩;have hc5:=cell_kept (World.cell?_setCell_same' W ⟨w.heap.size+1,0,none⟩ (.int .i64 2) (by rw [cR];rfl)) (grownBy_putObj' _ D (.deferred none)) (fun r e=>by cases e;exact⟨_,hK',rfl⟩);refine⟨.int .i64 2,?_,by rw [HV2.out],(HBW.out.setCell (p:=⟨w.heap.size+1,0,none⟩) (by simp) _).trans (belowK_b (w:=w) (Nat.le_refl _) _ D _ _ (by omega) hK' rfl rfl)⟩;simp [results,Tryz.results80,go_sem,hc5]
  ·have q1:decide (24<(dep e:Int))=false:=(by rw [decide_eq_false_iff_not];omega);by_cases h2:400<sz e
   ·have q2:decide (400<(sz e:Int))=true:=(by rw [decide_eq_true_eq];omega);have HV2:Hid (vld e=2):=Lh (by rw [HV.out,if_pos (.inr h2)]);clear h1 h2
    gi_wp2
    have hK':=(KeepsOthers.setCell W ⟨w.heap.size+1,0,none⟩ (.int .i64 2)).same D _ HK.out rfl;refine⟨by simp,.inl ⟨_,_,rfl,run_takeDeferred hK',?_⟩⟩;have hc5:=cell_kept (World.cell?_setCell_same' W ⟨w.heap.size+1,0,none⟩ (.int .i64 2) (by rw [cR];rfl)) (grownBy_putObj' _ D (.deferred none)) (fun r e=>by cases e;exact⟨_,hK',rfl⟩);refine⟨.int .i64 2,?_,by rw [HV2.out],(HBW.out.setCell (p:=⟨w.heap.size+1,0,none⟩) (by simp) _).trans (belowK_b (w:=w) (Nat.le_refl _) _ D _ _ (by omega) hK' rfl rfl)⟩;simp [results,Tryz.results80,go_sem,hc5]
   ·have q2:decide (400<(sz e:Int))=false:=(by rw [decide_eq_false_iff_not];omega);have HV2:Hid (vld e=0):=Lh (by rw [HV.out,if_neg (by omega)]);clear h1 h2
    gi_wp2
    have hK':=(KeepsOthers.setCell W ⟨w.heap.size+1,0,none⟩ (.int .i64 0)).same D _ HK.out rfl;refine⟨by simp,.inl ⟨_,_,rfl,run_takeDeferred hK',?_⟩⟩;have hc5:=cell_kept (World.cell?_setCell_same' W ⟨w.heap.size+1,0,none⟩ (.int .i64 0) (by rw [cR];rfl)) (grownBy_putObj' _ D (.deferred none)) (fun r e=>by cases e;exact⟨_,hK',rfl⟩);refine⟨.int .i64 0,?_,by rw [HV2.out],(HBW.out.setCell (p:=⟨w.heap.size+1,0,none⟩) (by simp) _).trans (belowK_b (w:=w) (Nat.le_refl _) _ D _ _ (by omega) hK' rfl rfl)⟩;simp [results,Tryz.results80,go_sem,hc5]
 case stop =>
  rintro D c bef W hD hpre ⟨⟨bR1,rfl,hne⟩,hB1⟩ hK;have HV:Hid (fstE (bef.map Nd.info)=vld e):=Lh (by
   obtain⟨r,hr⟩:=hpre;unfold vld vldL;rw [←hr,fst_append,if_neg hne,if_neg hne])
  have HBW:=Lh (hB0.trans hB1);have cR:=bR1.cell;clear bR1 hne hpre hB1
  gi_wp2
  refine⟨by simp,.inl ⟨_,_,rfl,run_takeDeferred hK,?_⟩⟩;have hc5:=cell_kept cR (grownBy_putObj' _ D (.deferred none)) (fun r e=>by cases e;exact⟨_,hK,rfl⟩);refine⟨.int .i64 (fstE (bef.map Nd.info)),?_,by rw [HV.out],HBW.out.trans (belowK_b (w:=w) (Nat.le_refl _) W D _ _ (by omega) hK rfl rfl)⟩;simp [results,Tryz.results80,go_sem,hc5]
end ExW
namespace ExW
open Go Go.RowKit NumM LexW LexM ExM
inductive ExS (S:Nat→Prop) (w:World):Value→Ex→Prop where
 | mk {o n:Int} {s:ByteArray} {ks:List Ex} {p:Option Addr} {cap:Nat} (pl:Nat→Option Addr) (cl:Nat→Nat)
   (hs:s.size≤140737488351232) (hl:ks.length≤140737488351232) (hc:ks.length≤cap)
   (hp:0<ks.length→∃ b off,p=some ⟨b,off,none⟩∧S b∧∀ i a,ks[i]? = some a →
    w.cell? ⟨b,off+i*4,none⟩=some (.int .i64 a.op)∧w.cell? ⟨b,off+i*4+1,none⟩=some (.int .i64 a.n)∧w.cell? ⟨b,off+i*4+2,none⟩=some (.string a.nm)∧w.cell? ⟨b,off+i*4+3,none⟩=some (.slice (pl i) a.args.length (cl i)))
   (hx:∀ i a,ks[i]? = some a→ExS S w (xv a.op a.n a.nm (.slice (pl i) a.args.length (cl i))) a) :
   ExS S w (xv o n s (.slice p ks.length cap)) (.mk o n s ks)
theorem ExS.kept {S S':Nat→Prop} {w w':World} (hS:∀ b,S b→S' b) (hk:∀ b o,S b→∀ v,w.cell? ⟨b,o,none⟩=some v→w'.cell? ⟨b,o,none⟩=some v) {v:Value} {e:Ex} (h:ExS S w v e):ExS S' w' v e:=by
 induction h with
 | mk pl cl hs hl hc hp hx ih =>
  refine .mk pl cl hs hl hc (fun h0=>?_) (fun i a hi=>ih i a hi);obtain⟨b,off,e,hb,hcell⟩:=hp h0;exact⟨b,off,e,hS b hb,fun i a hi=>⟨hk _ _ hb _ (hcell i a hi).1,hk _ _ hb _ (hcell i a hi).2.1,hk _ _ hb _ (hcell i a hi).2.2.1,hk _ _ hb _ (hcell i a hi).2.2.2⟩⟩
theorem ExS.form {S:Nat→Prop} {w:World} {v:Value} {e:Ex} (h:ExS S w v e):∃ p cap,v=xv e.op e.n e.nm (.slice p e.args.length cap)∧e.nm.size≤140737488351232∧e.args.length≤cap:=by
 cases h with
 | mk pl cl hs hl hc hp hx=>exact⟨_,_,rfl,hs,hc⟩
abbrev Fr (lo:Nat) (w:World) (v:Value) (e:Ex):Prop:=ExS (fun b=>lo≤b∧b<w.heap.size) w v e
theorem Fr.later {lo:Nat} {w w':World} {v:Value} {e:Ex} (h:Fr lo w v e) (hb:Below w.heap.size w w'):Fr lo w' v e :=
 h.kept (fun _ g=>⟨g.1,Nat.lt_of_lt_of_le g.2 hb.size⟩) (fun _ o g _ hv=>(hb.cell (p:=⟨_,o,none⟩) g.2).trans hv)
structure RowAt (w:World) (g K:Nat) (F:Nat→Nat→Value):Prop where
 lt:g<w.heap.size
 cell:∀ a r,a<K→r<4→w.cell? ⟨g,a*4+r,none⟩=some (F a r)
 frz:∀ o,w.frozen? ⟨g,o,none⟩=false
theorem RowAt.stay {w w':World} {g K:Nat} {F:Nat→Nat→Value} (h:RowAt w g K F) (hb:Below w.heap.size w w'):RowAt w' g K F :=
 ⟨Nat.lt_of_lt_of_le h.lt hb.size,fun a r ha hr=>(hb.cell (p:=⟨g,a*4+r,none⟩) h.lt).trans (h.cell a r ha hr),fun o=>(hb.frozen (p:=⟨g,o,none⟩) h.lt).trans (h.frz o)⟩
theorem RowAt.alloc {w:World} {g K:Nat} {F:Nat→Nat→Value} (h:RowAt w g K F) (o:Obj):RowAt (w.alloc o) g K F:=h.stay ((Below.refl _ _).alloc (Nat.le_refl _) _)
def exCells (pl:Nat→Option Addr) (cl:Nat→Nat):Nat→List Ex→List Value
 | _,[]=>[]
 | i,a::r=>[.int .i64 a.op,.int .i64 a.n,.string a.nm,.slice (pl i) a.args.length (cl i)]++exCells pl cl (i+1) r
def SigsAt (w:World) (v:Value) (env:Env):Prop :=
 ∃ p cap,v=.slice p env.length cap∧env.length≤140737488351232∧env.length≤cap∧(0<env.length→∃ b off,p=some ⟨b,off,none⟩∧b<w.heap.size∧∀ i x,env[i]? = some x →
  w.cell? ⟨b,off+i*2,none⟩=some (.string x.1)∧w.cell? ⟨b,off+i*2+1,none⟩=some (.int .i64 x.2))
theorem SigsAt.later {w w':World} {v:Value} {env:Env} (h:SigsAt w v env) (hb:Below w.heap.size w w'):SigsAt w' v env:=by
 obtain⟨p,cap,rfl,hl,hc,hx⟩:=h;refine⟨p,cap,rfl,hl,hc,fun h0=>?_⟩;obtain⟨b,off,hp,hbs,hcell⟩:=hx h0;refine⟨b,off,hp,Nat.lt_of_lt_of_le hbs hb.size,fun i t hi=>?_⟩;rw [hb.cell hbs,hb.cell hbs];exact hcell i t hi
theorem SigsAt.nil (w:World):SigsAt w (.slice none 0 0) []:=⟨none,0,rfl,by simp,by simp,fun h=>by simp at h⟩
structure IntsAt (w:World) (b off:Nat) (l:List Int):Prop where
 lt:b<w.heap.size
 cell:∀ i v,l[i]? = some v→w.cell? ⟨b,off+i,none⟩=some (.int .i64 v)
theorem IntsAt.later {w w':World} {b off:Nat} {l:List Int} (h:IntsAt w b off l) (hb:Below w.heap.size w w'):IntsAt w' b off l :=
 ⟨Nat.lt_of_lt_of_le h.lt hb.size,fun i v hi=>(hb.cell (p:=⟨b,off+i,none⟩) h.lt).trans (h.cell i v hi)⟩
end ExW
namespace ExW
open Go Go.RowKit Go.«Sort» NumM LexW LexM ExM
theorem reB {P:Program} {f:FuncId} {args:Array Value} {w:World} {v:Value} (C:∀ W,Below w.heap.size w W→Calls P f args W fun e w'=>e=.returned v∧Below W.heap.size W w') (d:Nat) (os:Array Obj) :
  Calls P f args (grow (redrawn w d) os) fun e w''=>e=.returned v∧∃ p:Regrown,w''=grow (redrawn w p.d) p.os :=
 Calls.regrown_of (C _ (below_regrown w d os))
end ExW
namespace ExW
open Go Go.RowKit NumM LexW LexM ExM
def StrsA (w:World) (v:Value) (l:List ByteArray):Prop :=
 ∃ p cap,v=.slice p l.length cap∧l.length≤cap∧(0<l.length→∃ b off,p=some ⟨b,off,none⟩∧∀ i s,l[i]? = some s→w.cell? ⟨b,off+i,none⟩=some (.string s))
end ExW
namespace ExW
open Go Go.RowKit Go.Shelf NumM LexW LexM ExM
attribute [local go_sem] Oper.semAt_some
def nmD (l:List ByteArray):DataW Unit:=l.foldl (fun D s=>D.put (.string s.data.toList) (.lit (.bool true))) (.map [])
theorem infoS:(Tryz.prog.info? 9).map (fun i=>(i.zero,i.size,i.bytes))=some (some (.string ⟨#[]⟩),1,16):=by kernel_rfl
structure NmI (w:World) (fv:Value) (l:List ByteArray) (n:Nat) (W0 W:World):Prop where
 list:∃ v,Boxed W (w.heap.size+2) 43 v∧W.ownsRow w.heap.size 9 1 v l.length (l.map Value.string)
 fn:Boxed W (w.heap.size+1) 108 fv
 mp:Boxed W (w.heap.size+4) 119 (.map (some (w.heap.size+3)))
 map:W.ownsMap Tryz.prog 9 (plainElem (H:=Unit) Tryz.prog 4) (w.heap.size+3) n (nmD l)
 low:Below w.heap.size W0 W
theorem boxed_kept {W W':World} {B:Nat} {t:TypeId} {v:Value} {row:Option Nat} (h:Boxed W B t v) (hg:W.grownBy W' row) (hr:∀ r,row=some r→∃ o:Obj,W.heap[r]? = some o∧o.isCells=false):Boxed W' B t v :=
 h.kept hg (fun e'=>by obtain⟨o,ho,hc⟩:=hr B e'.symm;rw [show W.heap[B]? = _ from h] at ho;cases ho;cases hc)
theorem NmI.kept {w W0 W W':World} {fv:Value} {l:List ByteArray} {n:Nat} {row:Option Nat} (h:NmI w fv l n W0 W) (hz:w.heap.size+5<W0.heap.size) (hg:W.grownBy W' row) (hr:∀ r,row=some r→W0.heap.size≤r∧∃ o:Obj,W.heap[r]? = some o∧o.isCells=false):NmI w fv l n W0 W':=by
 obtain⟨⟨v,h1,h2⟩,h3,h4,h5,h6⟩:=h;have hr2:=(fun r e=>(hr r e).2);obtain⟨v',q1,q2,_⟩:=holdsRow_own w.heap.size (w.heap.size+2) 43 9 1 (fun l:List ByteArray=>l.length) (fun l=>l.map Value.string) (fun _ _=>True) l W W' row ⟨v,h1,h2,trivial⟩ hg hr2;refine⟨⟨v',q1,q2⟩,boxed_kept h3 hg hr2,boxed_kept h4 hg hr2,h5.kept hg (fun e=>by have:=(hr _ e.symm).1;omega),h6.grown hg (by have:=h6.size;omega) (fun k e=>by have:=(hr k e).1;omega)⟩
end ExW
namespace ExW
open Go Go.RowKit NumM LexW LexM ExM
theorem strs_own {W:World} {B:Nat} {v:Value} {l:List ByteArray} (h:W.ownsRow B 9 1 v l.length (l.map Value.string)):StrsA W v l:=by
 obtain⟨_,⟨hv,hn⟩ | ⟨g,cap,cur,hv,hB,hg,hle,_,_,htake⟩⟩:=h
 ·exact⟨none,0,by rw [hv,hn],by omega,fun x=>by omega⟩
 ·refine⟨some ⟨g,0,none⟩,cap,hv,hle,fun _=>⟨g,0,rfl,fun i s hi=>?_⟩⟩;rw [cell_of_row W g _ cur 9 (0,0) hg,Nat.zero_add];have hl:=(List.getElem?_eq_some_iff.1 hi).1;have:(cur.toList.take (l.length*1))[i]? = some (.string s):=(by rw [htake,List.getElem?_map,hi];rfl);rw [List.getElem?_take,if_pos (by omega)] at this
  simpa using this
end ExW
namespace ExW
open Go Go.RowKit NumM LexW LexM ExM
def Five (W:World) (g:Nat) (x0 x1 x2 x3 x4:Value):Prop:=W.heap[g]? = some (.cells #[x0,x1,x2,x3,x4] 145)
section
variable {W:World} {g:Nat} {x0 x1 x2 x3 x4:Value}
theorem Five.lt (h:Five W g x0 x1 x2 x3 x4):g<W.heap.size:=(Array.getElem?_eq_some_iff.1 h).1
theorem Five.cell (h:Five W g x0 x1 x2 x3 x4) (j:Nat):W.cell? ⟨g,j,none⟩=(#[x0,x1,x2,x3,x4]:Array Value)[j]?:=cell_of_row W g j _ _ (0,0) h
theorem Five.c0 (h:Five W g x0 x1 x2 x3 x4):W.cell? ⟨g,0,none⟩=some x0:=h.cell 0
theorem Five.c1 (h:Five W g x0 x1 x2 x3 x4):W.cell? ⟨g,1,none⟩=some x1:=h.cell 1
theorem Five.c2 (h:Five W g x0 x1 x2 x3 x4):W.cell? ⟨g,2,none⟩=some x2:=h.cell 2
theorem Five.c3 (h:Five W g x0 x1 x2 x3 x4):W.cell? ⟨g,3,none⟩=some x3:=h.cell 3
theorem Five.c4 (h:Five W g x0 x1 x2 x3 x4):W.cell? ⟨g,4,none⟩=some x4:=h.cell 4
theorem Five.new (W:World) (x0 x1 x2 x3 x4:Value):Five (W.alloc (.cells #[x0,x1,x2,x3,x4] 145)) W.heap.size x0 x1 x2 x3 x4:=heap_alloc_new _ _
theorem Five.stay {W':World} (h:Five W g x0 x1 x2 x3 x4) (hb:Below W.heap.size W W'):Five W' g x0 x1 x2 x3 x4:=(hb.block g h.lt).trans h
theorem Five.grown {W':World} {row:Option Nat} (h:Five W g x0 x1 x2 x3 x4) (hg:W.grownBy W' row) (hr:some g≠row):Five W' g x0 x1 x2 x3 x4:=(hg.block g h.lt hr).trans h
end
abbrev Nms (lo:Nat) (W:World) (v:Value) (l:List ByteArray):Prop:=W.ownsRow lo 9 1 v l.length (l.map Value.string)
theorem Nms.blk {lo:Nat} {W:World} {v:Value} {l:List ByteArray} (h:Nms lo W v l) {b:Nat} (hb:v.ownBlock=some b):lo≤b∧b<W.heap.size∧∃ cs,W.heap[b]? = some (.cells cs 9):=by
 rcases h.2 with ⟨rfl,_⟩ | ⟨g',cap',cur,rfl,hlo,hgb,_⟩
 ·simp [Value.ownBlock] at hb
 ·obtain rfl:g'=b:=(by simpa [Value.ownBlock] using hb);exact⟨hlo,(Array.getElem?_eq_some_iff.1 hgb).1,cur,hgb⟩
theorem Nms.grown {lo:Nat} {W W':World} {v:Value} {l:List ByteArray} {row:Option Nat} (h:Nms lo W v l) (hg:W.grownBy W' row) (hr:∀ b,v.ownBlock=some b→row≠some b):Nms lo W' v l :=
 World.ownsRow.kept h hg (by
  cases hv:v.ownBlock with
  | none=>exact .inl rfl
  | some b=>exact .inr (fun e=>hr b hv e.symm))
theorem Nms.later {lo:Nat} {W W':World} {v:Value} {l:List ByteArray} (h:Nms lo W v l) (hb:Below W.heap.size W W'):Nms lo W' v l:=h.grown (grown_of_below hb) (fun _ _ e=>by cases e)
def Seen (g:Nat) (k m f:Int) (l1 l2:List ByteArray) (W:World):Prop :=
 ∃ v1 v2,Five W g (.int .i64 k) (.int .i64 m) (.int .i64 f) v1 v2∧Nms (g+1) W v1 l1∧Nms (g+1) W v2 l2∧∀ b,v1.ownBlock=some b→v2.ownBlock≠some b
theorem Seen.later {g:Nat} {k m f:Int} {l1 l2:List ByteArray} {W W':World} (h:Seen g k m f l1 l2 W) (hb:Below W.heap.size W W'):Seen g k m f l1 l2 W':=by
 obtain⟨v1,v2,h1,h2,h3,h4⟩:=h;have hg:=grown_of_below hb;exact⟨v1,v2,h1.stay hb,h2.grown hg (fun _ _ e=>by cases e),h3.grown hg (fun _ _ e=>by cases e),h4⟩
def Box4 (W:World) (b:Nat) (o n:Int) (s:ByteArray) (x:Value):Prop:=W.heap[b]? = some (.cells #[.int .i64 o,.int .i64 n,.string s,x] 51)
theorem Box4.lt {W:World} {b:Nat} {o n:Int} {s:ByteArray} {x:Value} (h:Box4 W b o n s x):b<W.heap.size:=(Array.getElem?_eq_some_iff.1 h).1
theorem Box4.cell {W:World} {b:Nat} {o n:Int} {s:ByteArray} {x:Value} (h:Box4 W b o n s x) (j:Nat):W.cell? ⟨b,j,none⟩=(#[.int .i64 o,.int .i64 n,.string s,x]:Array Value)[j]?:=cell_of_row W b j _ _ (0,0) h
theorem Box4.c0 {W:World} {b:Nat} {o n:Int} {s:ByteArray} {x:Value} (h:Box4 W b o n s x):W.cell? ⟨b,0,none⟩=some (.int .i64 o):=h.cell 0
theorem Box4.c1 {W:World} {b:Nat} {o n:Int} {s:ByteArray} {x:Value} (h:Box4 W b o n s x):W.cell? ⟨b,1,none⟩=some (.int .i64 n):=h.cell 1
theorem Box4.c2 {W:World} {b:Nat} {o n:Int} {s:ByteArray} {x:Value} (h:Box4 W b o n s x):W.cell? ⟨b,2,none⟩=some (.string s):=h.cell 2
theorem Box4.c3 {W:World} {b:Nat} {o n:Int} {s:ByteArray} {x:Value} (h:Box4 W b o n s x):W.cell? ⟨b,3,none⟩=some (x):=h.cell 3
theorem Box4.stay {W W':World} {b:Nat} {o n:Int} {s:ByteArray} {x:Value} (h:Box4 W b o n s x) (hb:Below W.heap.size W W'):Box4 W' b o n s x:=(hb.block b h.lt).trans h
theorem Box4.keep {W W':World} {b g:Nat} {o n:Int} {s:ByteArray} {x:Value} (h:Box4 W b o n s x) (hk:Keep g (g+1) W W') (hb:g<b):Box4 W' b o n s x:=hk.blk b _ _ _ h (.inr ⟨hb,.inl rfl⟩)
structure Turn (g:Nat) (W W':World):Prop where
 low:Below g W W'
 keep:Keep g (g+1) W W'
theorem Turn.refl (g:Nat) (W:World):Turn g W W:=⟨Below.refl _ _,Keep.refl _ _ _⟩
theorem Turn.trans {g:Nat} {A B C:World} (h:Turn g A B) (k:Turn g B C):Turn g A C:=⟨h.low.trans k.low,h.keep.trans k.keep⟩
theorem Turn.later {g:Nat} {A B C:World} (h:Turn g A B) (hg:g≤A.heap.size) (hb:Below B.heap.size B C):Turn g A C :=
 h.trans ⟨hb.mono (by have:=h.low.size;omega),Keep.of_below hb⟩
theorem StrsA.later {w w':World} {v:Value} {l:List ByteArray} (h:StrsA w v l) (hb:Below w.heap.size w w'):StrsA w' v l:=by
 obtain⟨p,cap,e,hc,hx⟩:=h;refine⟨p,cap,e,hc,fun h0=>?_⟩;obtain⟨b,off,e2,hcell⟩:=hx h0;exact⟨b,off,e2,fun i s hi=>(hb.cell (p:=⟨b,off+i,none⟩) (cell_lt (hcell i s hi))).trans (hcell i s hi)⟩
end ExW
namespace ExW
open Go Go.RowKit NumM LexW LexM ExM
structure Mid (g:Nat) (k m f:Int) (l1 l2:List ByteArray) (b4:Nat) (o n:Int) (s:ByteArray) (x:Value) (W wx:World):Prop where
 seen:Seen g k m f l1 l2 wx
 box:Box4 wx b4 o n s x
 far:g<b4
 turn:Turn g W wx
theorem Mid.later {g:Nat} {k m f:Int} {l1 l2:List ByteArray} {b4:Nat} {o n:Int} {s:ByteArray} {x:Value} {W wx wy:World} (h:Mid g k m f l1 l2 b4 o n s x W wx) (hg:g≤W.heap.size) (hb:Below wx.heap.size wx wy):Mid g k m f l1 l2 b4 o n s x W wy :=
 ⟨h.seen.later hb,h.box.stay hb,h.far,h.turn.later hg hb⟩
end ExW
end Go.Proofs.YtihnejaopejbgaaGreatDoor
