/-
  Laws that the card uses; no conditions beside those that each states (ExValid ItCut).
-/
import Derived.Shelf.Strconv.ErrVarAll
import Derived.Test.YtpejflgdehioaaaGreatDoorU04
import Derived.Test.YtpejflgdehioaaaGreatDoorU06
import Derived.Test.YtpejflgdehioaaaGreatDoorU07
set_option maxRecDepth 100000
set_option maxHeartbeats 16000000
namespace Go.Proofs.YtpejflgdehioaaaGreatDoor
namespace ExW
open Go Go.RowKit Go.Shelf NumM LexW LexM ExM
attribute [local go_sem] Oper.semAt_some
theorem four_own (B g:Nat) (x0 x1 x2 x3:Value):OwnFrom B (fun (_:Unit) W=>Four W g x0 x1 x2 x3):=fun _ X _ row hs hg hr=>by
 have hne:some g≠row:=fun e=>by
  obtain⟨_,ob,ho,hc⟩:=hr g e.symm;have:=hs.c0;simp only [World.cell?,ho] at this;cases ob<;>simp_all [Obj.isCells]
 have hb:=hg.block g hs.lt hne;exact⟨Nat.lt_of_lt_of_le hs.lt hg.size,(World.cell?_of_block (w:=X) hb).trans hs.c0,(World.cell?_of_block (w:=X) hb).trans hs.c1,(World.cell?_of_block (w:=X) hb).trans hs.c2,(World.cell?_of_block (w:=X) hb).trans hs.c3,
  (World.frozen?_of_block (w:=X) hb).trans hs.f0,(World.frozen?_of_block (w:=X) hb).trans hs.f1,(World.frozen?_of_block (w:=X) hb).trans hs.f2,(World.frozen?_of_block (w:=X) hb).trans hs.f3⟩
theorem bxStay {W W':World} {B:Nat} {t:TypeId} {v:Value} (h:Boxed W B t v) (hb:Below W.heap.size W W'):Boxed W' B t v:=(hb.block B h.lt).trans h
theorem keepsFrom_below {B:Nat} {W W':World} (h:Below W.heap.size W W'):KeepsFrom B W W' :=
 ⟨h.size,fun k _ _ hk _=>(h.block k (Array.getElem?_eq_some_iff.1 hk).1).trans hk⟩
theorem valid_any (e:Ex) (v:Value) (w:World) (hx:ExAt w.heap.size w v e) (hsz:sz e≤10000) (ht:Tab w) :
  Calls Tryz.prog 55 #[v] w (tInt (vld e) w):=by
 obtain⟨p,cap,pl,cl,rfl,hs,ha⟩:=hx.form;have HX:=Lh hx;have HT:=Lh ht;clear hx ha ht;generalize e.op=o at *
 generalize e.n=num at *
 generalize e.nm=s at *
 generalize e.args.length=K at *
 refine (callsIn_wide (n:=9)).1 ?_;refine callsIn_of_wp_marks Tryz.func55 rfl trivial ?_ rfl;simp only [Tryz.ntmps55,List.size_toArray,List.length_cons,List.length_nil,Nat.reduceAdd,Nat.reduceSub,Array.replicate_succ,Array.replicate_zero,List.push_toArray,List.append_toArray,List.nil_append,List.cons_append]
 gi_wp2_with (refine⟨trivial,?_⟩;gi_at_call 94;refine (nodes_in Fence.wide _ trivial rfl _ _ _ _ _).mono ?_;rintro e w' ⟨rfl,rfl⟩)
 have bR:=(((Boxed.new (w.alloc (.cells #[.int .i64 o,.int .i64 num,.string s,.slice p K cap] 43)) 29 (.int .i64 0)).alloc (.cells #[.int .i64 0] 3)).alloc (.cells #[.int .i64 0] 3)).alloc (.cells #[.int .i64 o,.int .i64 num,.string s,.slice p K cap] 43);have bS:=((Boxed.new ((w.alloc (.cells #[.int .i64 o,.int .i64 num,.string s,.slice p K cap] 43)).alloc (.cells #[.int .i64 0] 29)) 3 (.int .i64 0)).alloc (.cells #[.int .i64 0] 3)).alloc (.cells #[.int .i64 o,.int .i64 num,.string s,.slice p K cap] 43);have bD:=(Boxed.new (((w.alloc (.cells #[.int .i64 o,.int .i64 num,.string s,.slice p K cap] 43)).alloc (.cells #[.int .i64 0] 29)).alloc (.cells #[.int .i64 0] 3)) 3 (.int .i64 0)).alloc (.cells #[.int .i64 o,.int .i64 num,.string s,.slice p K cap] 43);have bA:=Four.new ((((w.alloc (.cells #[.int .i64 o,.int .i64 num,.string s,.slice p K cap] 43)).alloc (.cells #[.int .i64 0] 29)).alloc (.cells #[.int .i64 0] 3)).alloc (.cells #[.int .i64 0] 3)) (.int .i64 o) (.int .i64 num) (.string s) (.slice p K cap) 43;have hB0:Below w.heap.size w (((((w.alloc (.cells #[.int .i64 o,.int .i64 num,.string s,.slice p K cap] 43)).alloc (.cells #[.int .i64 0] 29)).alloc (.cells #[.int .i64 0] 3)).alloc (.cells #[.int .i64 0] 3)).alloc (.cells #[.int .i64 o,.int .i64 num,.string s,.slice p K cap] 43)):=(((((Below.refl _ w).alloc (Nat.le_refl _) _).alloc (by simp) _).alloc (by simp;omega) _).alloc (by simp;omega) _).alloc (by simp;omega) _;have hz:(((((w.alloc (.cells #[.int .i64 o,.int .i64 num,.string s,.slice p K cap] 43)).alloc (.cells #[.int .i64 0] 29)).alloc (.cells #[.int .i64 0] 3)).alloc (.cells #[.int .i64 0] 3)).alloc (.cells #[.int .i64 o,.int .i64 num,.string s,.slice p K cap] 43)).heap.size=w.heap.size+5:=(by simp);simp only [World.size_alloc,Nat.add_assoc,Nat.reduceAdd] at bR bS bD bA;simp only [Nat.add_assoc,Nat.reduceAdd];obtain⟨W0,hW0⟩:∃ W0,(((((w.alloc (.cells #[.int .i64 o,.int .i64 num,.string s,.slice p K cap] 43)).alloc (.cells #[.int .i64 0] 29)).alloc (.cells #[.int .i64 0] 3)).alloc (.cells #[.int .i64 0] 3)).alloc (.cells #[.int .i64 o,.int .i64 num,.string s,.slice p K cap] 43))=W0:=⟨_,rfl⟩;rw [hW0] at bR bS bD bA hB0 hz ⊢;clear hW0
 refine wpIn_rangeFunc_ownH rfl (by decide) (gf:=140) (lb:=#[.pointer (some ⟨w.heap.size+4,0,none⟩)]) rfl trivial (enters_of Tryz.func140 (by kernel_rfl) rfl)
  (nodes_stops Fence.wide rfl _ trivial trivial rfl w.heap.size (w.heap.size+4) (w.heap.size+4) (by omega) e hsz o num s (.slice p K cap) W0 (by omega) bA (HX.out.under hB0)) keep_t keep_b (Below.refl _ _) (fun _=>rfl)
  (fun bef W=>(((Boxed W (w.heap.size+2) 3 (.int .i64 bef.length)∧Boxed W (w.heap.size+3) 3 (.int .i64 (mxL (bef.map Nd.info))))∧Boxed W (w.heap.size+1) 29 (.int .i64 0))∧fstE (bef.map Nd.info)=0)∧Below w.heap.size W0 W)
  (fun c bef W=>(Boxed W (w.heap.size+1) 29 (.int .i64 (fstE (bef.map Nd.info)))∧(c=.ret∧fstE (bef.map Nd.info)≠0))∧Below w.heap.size W0 W)
  (OwnFrom.and (OwnFrom.and (OwnFrom.and (OwnFrom.and (Own.from (boxed_own _ _ _) _) (Own.from (boxed_own _ _ _) _)) (Own.from (boxed_own _ _ _) _)) (ownFrom_pure _ _)) (ownFrom_below (by omega) (by omega)))
  (fun c=>OwnFrom.and (OwnFrom.and (Own.from (boxed_own _ _ _) _) (ownFrom_pure _ _)) (ownFrom_below (by omega) (by omega)))
  ⟨⟨⟨⟨bS,bD⟩,bR⟩,rfl⟩,Below.refl _ _⟩
  (fun x a' W=>∃ g,a' = { tmps:=#[xv o num s (.slice p K cap),.pointer (some ⟨w.heap.size,0,none⟩),.pointer (some ⟨w.heap.size+1,0,none⟩),.pointer (some ⟨w.heap.size+2,0,none⟩),.pointer (some ⟨w.heap.size+3,0,none⟩),.int .i64 x.lv,.pointer (some ⟨g,0,none⟩),undef,xv o num s (.slice p K cap),.func (.func 140) #[] #[.pointer (some ⟨w.heap.size+4,0,none⟩)],.int .i64 x.lv,xv x.op x.n x.nm (.slice x.p x.k x.cap),undef,undef,undef,undef,undef,undef,undef,undef,undef,undef,undef,undef,undef,undef,undef,undef],defers:=[] }∧Four W g (.int .i64 x.op) (.int .i64 x.n) (.string x.nm) (.slice x.p x.k x.cap))
  (fun x a' _ X Y row hs hg hr=>by obtain⟨g,h1,h2⟩:=hs;exact⟨g,h1,four_own _ g _ _ _ _ () X Y row h2 hg hr⟩)
  ?assign ?body ?done ?stop
 case assign =>
  rintro l bef x W K ⟨⟨⟨⟨bS1,bD1⟩,bR1⟩,hf1⟩,hB1⟩ hK;have hWs:=hB1.size;have hb2:Below W.heap.size W (W.alloc (.cells #[.int .i64 x.op,.int .i64 x.n,.string x.nm,.slice x.p x.k x.cap] 43)):=(Below.refl _ _).alloc (Nat.le_refl _) _;have hlt:=bD1.lt;have hK2:=hK _ _ (keepsFrom_below hb2) (Keep.of_below hb2) ⟨⟨⟨⟨bxStay bS1 hb2,bxStay bD1 hb2⟩,bxStay bR1 hb2⟩,hf1⟩,hB1.trans (hb2.mono (by omega))⟩ ⟨W.heap.size,rfl,Four.new W _ _ _ _ 43⟩;rw [zip2]
  gi_wp2
  exact hK2
 case body =>
  rintro l bef x a' W hl _ ⟨⟨⟨⟨bS1,bD1⟩,bR1⟩,hf1⟩,hB1⟩ ⟨g,rfl,fX⟩ hlt;have hWs:=hB1.size;have hFS:=Lh (fst_snoc (bef.map Nd.info) x.info);have hMX:Hid (mxL ((bef++[x]).map Nd.info)=max (mxL (bef.map Nd.info)) x.lv):=Lh (by rw [List.map_append,mx_append,List.map_cons,List.map_nil,mx_one];rfl);have hMP:Hid ((bef++[x]).map Nd.info=bef.map Nd.info++[x.info]):=Lh (by rw [List.map_append];rfl);have FC:Hid (∀ n,CallsIn (Fence.wide.inRound l) n Tryz.prog 95 #[xv x.op x.n x.nm (.slice x.p x.k x.cap)] W (tInt (fltS x.info) W)):=(Lh fun n=>CallsIn.inRound l (callsIn_wide.2 (fault_any x.op x.n x.nm x.p x.k x.cap W x.hs x.hk (HT.out.later (hB0.trans hB1)))));have hbl:bef.length≤10000:=(by omega);have x0:=fX.c0;have x1:=fX.c1;have x2:=fX.c2;have x3:=fX.c3;have fR:=bR1.frozen;have l1:=bR1.lt;have l2:=bS1.lt;have l3:=bD1.lt;have BS:=Lh bS1;have BD:=Lh bD1;have BR:=Lh bR1;have HB1:=Lh hB1;have HF1:=Lh hf1;have hxl:=x.hl;clear fX bS1 bD1 bR1 hB1 hf1;by_cases hf:fltS x.info=0
  ·rw [hf] at FC;have HE:Hid (fstE ((bef++[x]).map Nd.info)=0):=Lh (by rw [hMP.out,hFS.out,HF1.out,if_pos rfl,hf]);clear hf;generalize mxL (bef.map Nd.info)=d at *
   have hmx:Hid (((max d x.lv:Nat):Int)=max (d:Int) (x.lv:Int)):=Lh (by omega)
   gi_wp2_with (refine⟨trivial,?_⟩;gi_at_call 95;refine (FC.out _).mono ?_;rintro e w1 ⟨rfl,hb⟩;have bS2:=bxStay BS.out hb;have bD2:=bxStay BD.out hb;have bR2:=bxStay BR.out hb;have cS:=bS2.cell;have cD:=bD2.cell;have fS:=bS2.frozen;have fD:=bD2.frozen;have HB:=Lh hb;have BS2:=Lh bS2;have BD2:=Lh bD2;have BR2:=Lh bR2;clear hb bS2 bD2 bR2)
   refine⟨((keepsFrom_below HB.out).trans ((KeepsOthers.setCell _ _ _).from _)).trans ((KeepsOthers.setCell _ _ _).from _),((Keep.of_below HB.out).set (by omega) (by omega) _).set (by omega) (by omega) _,⟨⟨⟨⟨?_,?_⟩,(BR2.out.other (by omega) _).other (by omega) _⟩,HE.out⟩,((HB1.out.trans (HB.out.mono (by omega))).setCell (p:=⟨w.heap.size+2,0,none⟩) (by simp) _).setCell (p:=⟨w.heap.size+3,0,none⟩) (by simp) _⟩⟩
   ·rw [List.length_append];exact (BS2.out.set _).other (by omega) _
   ·rw [hMX.out,hmx.out];exact (BD2.out.other (by omega) _).set _
  ·have HE:Hid (fstE ((bef++[x]).map Nd.info)=fltS x.info):=Lh (by rw [hMP.out,hFS.out,HF1.out,if_pos rfl]);generalize fltS x.info=E at *
   have hE:(E != 0)=true:=(by simpa using hf);have HNE:=Lh hf;clear hf
   gi_wp2_with (refine⟨trivial,?_⟩;gi_at_call 95;refine (FC.out _).mono ?_;rintro e w1 ⟨rfl,hb⟩;have bR2:=bxStay BR.out hb;have cR:=bR2.cell;have fR2:=bR2.frozen;have HB:=Lh hb;have BR2:=Lh bR2;clear hb bR2)
   refine⟨(keepsFrom_below HB.out).trans ((KeepsOthers.setCell _ _ _).from _),⟨?_,rfl,by rw [HE.out];exact HNE.out⟩,(HB1.out.trans (HB.out.mono (by omega))).setCell (p:=⟨w.heap.size+1,0,none⟩) (by simp) _⟩;rw [HE.out];exact BR2.out.set _
 case done =>
  rintro D zs W hD hzs ⟨⟨⟨⟨bS1,bD1⟩,bR1⟩,hf1⟩,hB1⟩ hK;have hl:mxL (zs.map Nd.info)=dep e:=(by rw [hzs];have:=pre_mx e 1;omega);have hl2:zs.length=sz e:=(by rw [←pre_len e 1,←hzs,List.length_map]);have hlz:(pre 1 e).length=sz e:=pre_len e 1;have HV:Hid (vld e=if 24<dep e∨400<sz e then 2 else 0):=Lh (by unfold vld vldL;rw [←hzs,if_pos hf1,hl,List.length_map,hl2]);have HBW:=Lh (hB0.trans hB1);rw [hl] at bD1;rw [hl2] at bS1;have cS:=bS1.cell;have cD:=bD1.cell;have cR:=bR1.cell;have fR:=bR1.frozen;have HK:=Lh hK;clear bS1 bD1 hl hl2 hzs hf1 hlz hB1;by_cases h1:24<dep e
  ·have q1:decide (24<(dep e:Int))=true:=(by rw [decide_eq_true_eq];omega);have HV2:Hid (vld e=2):=Lh (by rw [HV.out,if_pos (.inl h1)]);clear h1
   gi_wp2
   have hK':=(KeepsOthers.setCell W ⟨w.heap.size+1,0,none⟩ (.int .i64 2)).same D _ HK.out rfl;refine⟨by simp,.inl ⟨_,_,rfl,run_takeDeferred hK',?_⟩⟩;have hc5:=cell_kept (World.cell?_setCell_same' W ⟨w.heap.size+1,0,none⟩ (.int .i64 2) (by rw [cR];rfl)) (grownBy_putObj' _ D (.deferred none)) (fun r e=>by cases e;exact⟨_,hK',rfl⟩);refine⟨.int .i64 2,?_,by rw [HV2.out],(HBW.out.setCell (p:=⟨w.heap.size+1,0,none⟩) (by simp) _).trans (belowK_b (w:=w) (Nat.le_refl _) _ D _ _ (by omega) hK' rfl rfl)⟩;simp [results,Tryz.results55,go_sem,hc5]
  ·have q1:decide (24<(dep e:Int))=false:=(by rw [decide_eq_false_iff_not];omega);by_cases h2:400<sz e
   ·have q2:decide (400<(sz e:Int))=true:=(by rw [decide_eq_true_eq];omega);have HV2:Hid (vld e=2):=Lh (by rw [HV.out,if_pos (.inr h2)]);clear h1 h2
    gi_wp2
    have hK':=(KeepsOthers.setCell W ⟨w.heap.size+1,0,none⟩ (.int .i64 2)).same D _ HK.out rfl;refine⟨by simp,.inl ⟨_,_,rfl,run_takeDeferred hK',?_⟩⟩;have hc5:=cell_kept (World.cell?_setCell_same' W ⟨w.heap.size+1,0,none⟩ (.int .i64 2) (by rw [cR];rfl)) (grownBy_putObj' _ D (.deferred none)) (fun r e=>by cases e;exact⟨_,hK',rfl⟩);refine⟨.int .i64 2,?_,by rw [HV2.out],(HBW.out.setCell (p:=⟨w.heap.size+1,0,none⟩) (by simp) _).trans (belowK_b (w:=w) (Nat.le_refl _) _ D _ _ (by omega) hK' rfl rfl)⟩;simp [results,Tryz.results55,go_sem,hc5]
   ·have q2:decide (400<(sz e:Int))=false:=(by rw [decide_eq_false_iff_not];omega);have HV2:Hid (vld e=0):=Lh (by rw [HV.out,if_neg (by omega)]);clear h1 h2
    gi_wp2
    have hK':=(KeepsOthers.setCell W ⟨w.heap.size+1,0,none⟩ (.int .i64 0)).same D _ HK.out rfl;refine⟨by simp,.inl ⟨_,_,rfl,run_takeDeferred hK',?_⟩⟩;have hc5:=cell_kept (World.cell?_setCell_same' W ⟨w.heap.size+1,0,none⟩ (.int .i64 0) (by rw [cR];rfl)) (grownBy_putObj' _ D (.deferred none)) (fun r e=>by cases e;exact⟨_,hK',rfl⟩);refine⟨.int .i64 0,?_,by rw [HV2.out],(HBW.out.setCell (p:=⟨w.heap.size+1,0,none⟩) (by simp) _).trans (belowK_b (w:=w) (Nat.le_refl _) _ D _ _ (by omega) hK' rfl rfl)⟩;simp [results,Tryz.results55,go_sem,hc5]
 case stop =>
  rintro D c bef W hD hpre ⟨⟨bR1,rfl,hne⟩,hB1⟩ hK;have HV:Hid (fstE (bef.map Nd.info)=vld e):=Lh (by
   obtain⟨r,hr⟩:=hpre;unfold vld vldL;rw [←hr,fst_append,if_neg hne,if_neg hne])
  have HBW:=Lh (hB0.trans hB1);have cR:=bR1.cell;clear bR1 hne hpre hB1
  gi_wp2
  refine⟨by simp,.inl ⟨_,_,rfl,run_takeDeferred hK,?_⟩⟩;have hc5:=cell_kept cR (grownBy_putObj' _ D (.deferred none)) (fun r e=>by cases e;exact⟨_,hK,rfl⟩);refine⟨.int .i64 (fstE (bef.map Nd.info)),?_,by rw [HV.out],HBW.out.trans (belowK_b (w:=w) (Nat.le_refl _) W D _ _ (by omega) hK rfl rfl)⟩;simp [results,Tryz.results55,go_sem,hc5]
end ExW
namespace ItW
open Go Go.RowKit NumM LexW LexM ExM ExW ItM
structure TabI (w:World):Prop where
 tab:Tab w
 syn : ∃ tp p, w.var? Tryz.prog "strconv.ErrSyntax" = some #[.iface tp p]
theorem gSyntax : Tryz.prog.globalNamed "strconv.ErrSyntax" = some 1 := by kernel_rfl
theorem TabI.later {w w':World} (h:TabI w) (hb:Below w.heap.size w w'):TabI w' :=
 ⟨h.tab.later hb,by obtain⟨tp,p,hr⟩:=h.syn;exact⟨tp,p,var_later gSyntax hr hb⟩⟩
theorem atoi_empty (w:World) (ht:TabI w):Calls Tryz.prog 197 #[.string ⟨#[]⟩] w fun e w'=>∃ t p,e=.returned (.tuple #[.int .i64 0,.iface t (.pointer p)])∧Below w.heap.size w w':=by
 obtain⟨tp,p,hv⟩:=ht.syn;exact (Any.strconv_Atoi_syntax_var Tryz.laysC172 ⟨#[]⟩ (by decide) rfl tp p w hv).mono fun e w' ⟨N,he,_,_,hb⟩=>⟨_,_,he,hb⟩
theorem cutLite0 (s:ByteArray) (h:(91:UInt8) ∉ s.data.toList) (w:World) :
  Calls Tryz.prog 199 #[.string s,.string ⟨#[91]⟩] w fun e w'=>e=.returned (.tuple #[.string s,.string ⟨#[]⟩,.bool false])∧w=w':=by
 have IX:=Tryz.stringslite_Index_one s 91 w;have hi:Lib.indexByte s.data.toList 91 = -1:=by
  have hge:=Lib.indexByte_ge s.data.toList 91;by_cases h1:Lib.indexByte s.data.toList 91 = -1
  ·exact h1
  ·obtain⟨k,hk⟩:∃ k:Nat,Lib.indexByte s.data.toList 91=(k:Int):=⟨(Lib.indexByte s.data.toList 91).toNat,by omega⟩;obtain⟨h2,_⟩:=Lib.indexByte_some hk;exact absurd (List.mem_of_getElem? h2) h
 rw [hi] at IX;have IX:=Lh IX;clear h hi
 go_enter Tryz.func199,Tryz.ntmps199
 go_wp2_with (go_at_call 210;((with_reducible refine IX.out.mono ?_);rintro e w' ⟨rfl,rfl⟩))
 refine bodyPost_ret (v:=.tuple #[.string s,.string ⟨#[]⟩,.bool false]) (by simp [results,Tryz.results199,go_sem]) rfl ?_;exact⟨rfl,rfl⟩
theorem cut0 (s:ByteArray) (h:(91:UInt8) ∉ s.data.toList) (w:World) :
  Calls Tryz.prog 174 #[.string s,.string ⟨#[91]⟩] w fun e w'=>e=.returned (.tuple #[.string s,.string ⟨#[]⟩,.bool false])∧w=w':=by
 have C:=Lh (cutLite0 s h w);clear h
 go_enter Tryz.func174,Tryz.ntmps174
 go_wp2_with (go_at_call 199;((with_reducible refine C.out.mono ?_);rintro e w1 ⟨rfl,rfl⟩))
 refine bodyPost_ret (v:=.tuple #[.string s,.string ⟨#[]⟩,.bool false]) (by simp [results,Tryz.results174,go_sem]) rfl ?_;exact⟨rfl,rfl⟩
theorem dig_cases {d:UInt8} (h:48≤d.toNat∧d.toNat≤55):d=48∨d=49∨d=50∨d=51∨d=52∨d=53∨d=54∨d=55:=by
 have:∀ e:UInt8,d.toNat=e.toNat→d=e:=(fun e he=>UInt8.toNat_inj.1 he);have hk:d.toNat=48∨d.toNat=49∨d.toNat=50∨d.toNat=51∨d.toNat=52∨d.toNat=53∨d.toNat=54∨d.toNat=55:=(by omega);rcases hk with h | h | h | h | h | h | h | h
 ·exact .inl (this 48 h)
 ·exact .inr (.inl (this 49 h))
 ·exact .inr (.inr (.inl (this 50 h)))
 ·exact .inr (.inr (.inr (.inl (this 51 h))))
 ·exact .inr (.inr (.inr (.inr (.inl (this 52 h)))))
 ·exact .inr (.inr (.inr (.inr (.inr (.inl (this 53 h))))))
 ·exact .inr (.inr (.inr (.inr (.inr (.inr (.inl (this 54 h)))))))
 ·exact .inr (.inr (.inr (.inr (.inr (.inr (.inr (this 55 h)))))))
theorem atoi_dig {d:UInt8} (h:48≤d.toNat∧d.toNat≤55):Lib.atoiAll [d]=.ok (((d.toNat - 48:Nat):Int))∧Lib.trimSuffix [d,93] [93]=[d]:=by
 rcases dig_cases h with rfl | rfl | rfl | rfl | rfl | rfl | rfl | rfl<;>exact⟨rfl,rfl⟩
theorem elm_parts {s:ByteArray} (h:isE s=true):∃ d:UInt8,s.data.toList=(cutA s).data.toList++91::[d,93]∧(48≤d.toNat∧d.toNat≤55)∧nmB (cutA s).data.toList=true∧cutK s=((d.toNat - 48:Nat):Int):=by
 obtain⟨r,d,e,hd,hn⟩:=elm_iff.1 h;have ha:(cutA s).data.toList=r:=by
  show s.data.toList.take (s.data.toList.length - 3)=r;rw [e];simp
 refine⟨d,by rw [ha];exact e,hd,by rw [ha];exact hn,?_⟩;unfold cutK;rw [e];have hl:(r++91::[d,93]).length - 2=r.length+1:=(by simp);rw [hl,List.getD_eq_getElem?_getD,List.getElem?_append_right (by omega)];simp
def tCut (s:ByteArray) (w:World) (e:Ending) (w':World):Prop :=
 ∃ t i,e=.returned (.tuple #[.string t,.int .i64 i,.bool (isE s)])∧(isE s=true→t=cutA s∧i=cutK s)∧Below w.heap.size w w'
theorem cutElement_any (s:ByteArray) (w:World) (hs:s.size≤140737488351232) (hv:varB s.data.toList=true) (ht:TabI w) :
  Calls Tryz.prog 167 #[.string s] w (tCut s w):=by
 have HT:=Lh ht;obtain⟨q,hq⟩:∃ q,isE s=q:=⟨_,rfl⟩;cases q
 ·have hn:nmB s.data.toList=true:=by
   unfold varB at hv;rw [show elmB s.data.toList=false from hq] at hv
   simpa using hv
  have C:=Lh (cut0 s (nm_no hn) w);have T0:Hid (Calls Tryz.prog 198 #[.string ⟨#[]⟩,.string ⟨#[93]⟩] w fun e w'=>e=.returned (.string ⟨#[]⟩)∧w'=w):=Lh (Tryz.strings_TrimSuffix ⟨#[]⟩ ⟨#[93]⟩ w (by decide));have A0:=Lh (atoi_empty w ht);have Q:=Lh hq;clear hn hv ht hs hq
  go_enter Tryz.func167,Tryz.ntmps167
  go_wp2_with (first
   | (go_at_call 174;((with_reducible refine C.out.mono ?_);rintro e w1 ⟨rfl,rfl⟩))
   | (go_at_call 198;((with_reducible refine T0.out.mono ?_);rintro e w1 ⟨rfl,rfl⟩))
   | (go_at_call 197;((with_reducible refine A0.out.mono ?_);rintro e w1 ⟨t,p,rfl,hb⟩;have HB:=Lh hb;clear hb)))
  refine bodyPost_ret (v:=.tuple #[.string ⟨#[]⟩,.int .i64 0,.bool false]) (by simp [results,Tryz.results167,go_sem]) rfl ?_;exact⟨_,_,by rw [Q.out],fun h=>(by rw [Q.out] at h;cases h),HB.out⟩
 ·obtain⟨d,e,hd,hn,hk⟩:=elm_parts hq;obtain⟨t,b,f,⟨p1,p2,p3,p4⟩,C0⟩:=cutCode s hs;have hfb:f=true∧t=cutA s∧b=⟨#[d,93]⟩:=by
   rcases p4 with ⟨rfl,e2⟩ | ⟨rfl,e2⟩
   ·rw [e] at e2;obtain⟨g1,g2⟩:=split_at e2 (nm_no hn) p3;exact⟨rfl,bs_eq g1.symm,bs_eq g2.symm⟩
   ·rw [e2,e] at p3;exact absurd (by simp) p3
  obtain⟨rfl,rfl,rfl⟩:=hfb;obtain⟨a1,a2⟩:=atoi_dig hd;have C:=Lh (C0 w);have T0:Hid (∀ W,Calls Tryz.prog 198 #[.string ⟨#[d,93]⟩,.string ⟨#[93]⟩] W fun e w'=>e=.returned (.string ⟨#[d]⟩)∧w'=W):=Lh fun W=>by
   have:=Tryz.strings_TrimSuffix ⟨#[d,93]⟩ ⟨#[93]⟩ W (show (2:Nat)≤9223372036854775807 by decide);rw [show Lib.trimSuffix (⟨#[d,93]⟩:ByteArray).data.toList (⟨#[93]⟩:ByteArray).data.toList=[d] from a2] at this;exact this
  have A0:Hid (∀ W,Calls Tryz.prog 197 #[.string ⟨#[d]⟩] W fun e w'=>e=.returned (.tuple #[.int .i64 (cutK s),.nilIface])∧Below W.heap.size W w'):=Lh fun W=>by
   refine (Tryz.strconv_Atoi_ok ⟨#[d]⟩ (show (1:Nat)≤9223372036854775806 by decide) (cutK s) (by rw [hk];exact a1) W).mono ?_;rintro e w' ⟨rfl,hw⟩;refine⟨rfl,?_⟩;rcases hw with rfl | ⟨t,rfl⟩
   ·exact Below.refl _ _
   ·exact Lib.bytesWorld_below _ _ _
  have Q:=Lh hq;obtain⟨k,hkk⟩:∃ k,cutK s=k:=⟨_,rfl⟩;obtain⟨a,haa⟩:∃ a,cutA s=a:=⟨_,rfl⟩;rw [hkk] at A0;rw [haa] at C;have HKK:=Lh hkk;have HAA:=Lh haa;clear C0 p1 p2 p3 p4 hk hn e hd a1 a2 hv ht hs hq hkk haa
  go_enter Tryz.func167,Tryz.ntmps167
  go_wp2_with (first
   | (go_at_call 174;((with_reducible refine C.out.mono ?_);rintro e w1 ⟨rfl,hb⟩;have HB1:=Lh hb;clear hb))
   | (go_at_call 198;((with_reducible refine (T0.out _).mono ?_);rintro e w1 ⟨rfl,rfl⟩))
   | (go_at_call 197;((with_reducible refine (A0.out _).mono ?_);rintro e w2 ⟨rfl,hb⟩;have HB2:=Lh (HB1.out.then_ hb);clear hb)))
  refine bodyPost_ret (v:=.tuple #[.string a,.int .i64 k,.bool true]) (by simp [results,Tryz.results167,go_sem]) rfl ?_;exact⟨_,_,by rw [Q.out],fun _=>⟨HAA.out.symm,HKK.out.symm⟩,HB2.out⟩
end ItW
end Go.Proofs.YtpejflgdehioaaaGreatDoor
