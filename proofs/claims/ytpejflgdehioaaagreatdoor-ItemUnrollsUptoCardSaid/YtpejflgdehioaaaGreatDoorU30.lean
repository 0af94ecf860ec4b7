/-
  Laws that the card uses; no conditions beside those that each states (ExSuR ExSuS).
-/
import Derived.Test.YtpejflgdehioaaaGreatDoorU20
import Derived.Test.YtpejflgdehioaaaGreatDoorU27
set_option maxRecDepth 100000
set_option maxHeartbeats 16000000
namespace Go.Proofs.YtpejflgdehioaaaGreatDoor
namespace ExW
open Go Go.RowKit Go.«Sort» NumM LexW LexM ExM
theorem ExAt.foot {N:Nat} {w:World} {v:Value} {e:Ex} (h:ExAt N w v e):ExS (fun b=>b<N) w v e:=by
 induction h with
 | mk pl cl hs hl hc hp hx ih=>exact .mk pl cl hs hl hc hp (fun i a hi=>ih i a hi)
theorem ex_valS {S:Nat→Prop} {w:World} {v:Value} {e:Ex} (h:ExS S w v e):∃ p cap,v=xv e.op e.n e.nm (.slice p e.args.length cap)∧e.nm.size≤140737488351232:=by
 obtain⟨p,cap,h1,h2,_⟩:=h.form;exact⟨p,cap,h1,h2⟩
theorem take_mapS {ks:List Ex} {k:Nat} {a:Ex} (f:Ex→Ex) (h:ks[k]? = some a):(ks.take (k+1)).map f=(ks.take k).map f++[f a]:=by
 obtain⟨hk,he⟩:=List.getElem?_eq_some_iff.1 h;rw [List.take_succ_eq_append_getElem hk,List.map_append,he];rfl
theorem su_round {N lo G g7 k7 base:Nat} {w wr w5 w7:World} {C:Obj} {va:Value} {xs:List Ex} {x:Ex} {p5:Option Addr} {k5:Nat} {pl:Nat→Option Addr} {cl:Nat→Nat} {o n:Int} {s:ByteArray}
  (KD:KidsP N lo none wr va xs pl cl) (FO:Four wr G (.int .i64 o) (.int .i64 n) (.string s) va) (BW:Below base w wr) (hbase:base≤G) (hN:N≤G) (hG:G<lo) (hl:lo≤wr.heap.size) (hb:Below wr.heap.size wr w5)
  (hf:ExS (Foot N wr.heap.size w5) w5 (xv x.op x.n x.nm (.slice p5 x.args.length k5)) x) 
  (hown7:w7.ownsRow lo 43 4 (.slice (some ⟨g7,0,none⟩) (xs.length+1) k7) (xs.length+1) (exCells pl cl 0 xs++[.int .i64 x.op,.int .i64 x.n,.string x.nm,.slice p5 x.args.length k5])) (hg7:(w5.alloc C).grownBy w7 va.ownBlock) (hat7:va.ownBlock=some g7∨g7=(w5.alloc C).heap.size) :
  (∃ pl2 cl2,KidsP N lo none (w7.setCell ⟨G,3,none⟩ (.slice (some ⟨g7,0,none⟩) (xs.length+1) k7)) (.slice (some ⟨g7,0,none⟩) (xs.length+1) k7) (xs++[x]) pl2 cl2) ∧
   Four (w7.setCell ⟨G,3,none⟩ (.slice (some ⟨g7,0,none⟩) (xs.length+1) k7)) G (.int .i64 o) (.int .i64 n) (.string s) (.slice (some ⟨g7,0,none⟩) (xs.length+1) k7) ∧
   Below base w (w7.setCell ⟨G,3,none⟩ (.slice (some ⟨g7,0,none⟩) (xs.length+1) k7)) ∧
   (∀ b x0 x1 x2 x3,b<G→Four wr b x0 x1 x2 x3→Four (w7.setCell ⟨G,3,none⟩ (.slice (some ⟨g7,0,none⟩) (xs.length+1) k7)) b x0 x1 x2 x3):=by
 have hbC:Below w5.heap.size w5 (w5.alloc C):=(Below.refl _ _).alloc (Nat.le_refl _) _;have hva:=(fun b e=>own_lt KD.row b e);have s5:=hb.size;have sO:=FO.lt;have sC:=hbC.size;have s7:=hg7.size;have hb6:=hb.then_ hbC;have K6:=KD.later (by omega) hb6;have kid2:ExS (fun b=>Foot N lo (w5.alloc C) b∧va.ownBlock≠some b∧(none:Option Nat)≠some b) (w5.alloc C) (xv x.op x.n x.nm (.slice p5 x.args.length k5)) x:=by
  refine hf.grown (grown_of_below hbC) (fun b q=>?_);rcases q with q | q
  ·exact⟨⟨.inl q,fun e=>by have:=(hva b e).1;omega,by simp⟩,by omega,by simp⟩
  ·exact⟨⟨.inr ⟨by omega,by omega⟩,fun e=>by have:=(hva b e).2.1;omega,by simp⟩,q.2,by simp⟩
 obtain⟨pl3,cl3,K7⟩:=K6.snoc (by omega) (by omega) kid2 hown7 hg7 hat7;refine⟨⟨pl3,cl3,K7.turn (row:=some G) (by omega) (grownBy_set _ _ _ _) (fun b e e2=>?_) (fun b e=>.inr ⟨by cases e;exact hN,by cases e;exact hG⟩) (fun b e=>by cases e)⟩,?_,?_,?_⟩
 ·cases e2;have:=own_lt hown7 G e;omega
 ·exact (four_grown (FO.stay hb6) hg7 (fun e=>by have:=(hva _ e.symm).1;omega)).set3 _
 ·refine Below.setCell (p:=⟨G,3,none⟩) ?_ hbase _;exact Below.grown (w:=w5.alloc C) (BW.trans (hb6.mono (by omega))) hg7 (by omega) (fun k e=>by have:=(hva k e).1;omega)
 ·intro b x0 x1 x2 x3 hbG h;exact (four_grown (h.stay hb6) hg7 (fun e=>by have:=(hva _ e.symm).1;omega)).far (by omega)
theorem substS_any (nm:ByteArray) (b:Ex) (bv:Value) (N M:Nat) (hMN:M≤N) (e:Ex):∀ (w:World) (v:Value),ExAt N w v e→N≤w.heap.size→sz e≤10000→ExAt M w bv b→Calls Tryz.prog 139 #[v,.string nm,bv] w (tFo M (su nm b e) w):=by
 induction e using Ex.ind with
 | h o num s ks ih =>
  intro w v hx hN hsz hby;obtain⟨p,cap,pl,cl,rfl,hs,ha⟩:=at_form hx;obtain⟨pb,kb,rfl,hbs⟩:=ex_valS hby.foot;have hl:=len_szs ks;rw [sz_mk] at hsz;have hK33:ks.length≤10000:=(by omega);have hsz2:∀ a∈ks,sz a≤10000:=(fun a h=>by have:=sz_mem h;omega);rw [su_eq];obtain⟨j0,gi,gz0,gz1,gz2⟩:=info_parts infoE;obtain⟨K,hK⟩:∃ K,ks.length=K:=⟨_,rfl⟩;have HK:=Lh hK;rw [hK] at hK33 ⊢;clear hK hsz hl;have FB0:=((Four.new w (.int .i64 o) (.int .i64 num) (.string s) (.slice p K cap) 43).alloc (.cells #[.int .i64 b.op,.int .i64 b.n,.string b.nm,.slice pb b.args.length kb] 43)).alloc (.cells #[.int .i64 0,.int .i64 0,.string ⟨#[]⟩,.slice none 0 0] 43);have FY0:=(Four.new (w.alloc (.cells #[.int .i64 o,.int .i64 num,.string s,.slice p K cap] 43)) (.int .i64 b.op) (.int .i64 b.n) (.string b.nm) (.slice pb b.args.length kb) 43).alloc (.cells #[.int .i64 0,.int .i64 0,.string ⟨#[]⟩,.slice none 0 0] 43);have FR0:=Four.new ((w.alloc (.cells #[.int .i64 o,.int .i64 num,.string s,.slice p K cap] 43)).alloc (.cells #[.int .i64 b.op,.int .i64 b.n,.string b.nm,.slice pb b.args.length kb] 43)) (.int .i64 0) (.int .i64 0) (.string ⟨#[]⟩) (.slice none 0 0) 43;simp only [World.size_alloc] at FY0 FR0;have hb3:Below w.heap.size w (((w.alloc (.cells #[.int .i64 o,.int .i64 num,.string s,.slice p K cap] 43)).alloc (.cells #[.int .i64 b.op,.int .i64 b.n,.string b.nm,.slice pb b.args.length kb] 43)).alloc (.cells #[.int .i64 0,.int .i64 0,.string ⟨#[]⟩,.slice none 0 0] 43)):=(((Below.refl _ _).alloc (Nat.le_refl _) _).alloc (by simp) _).alloc (by simp;omega) _;have d0:=FB0.c0;have d1:=FB0.c1;have d2:=FB0.c2;have d3:=FB0.c3;have y0:=FY0.c0;have y1:=FY0.c1;have y2:=FY0.c2;have y3:=FY0.c3;have HBY:=Lh hby;have HB3:=Lh hb3;have HA:=Lh ha;have HS:=Lh hs;have HIH:=Lh ih;have HSZ:=Lh hsz2;have e2:(o == 2)=isVr o:=(by unfold isVr;rw [Bool.eq_iff_iff];simp);by_cases hq:(isVr o&&(s.toList == nm.toList))=true
  ·rw [if_pos hq];have h1:isVr o=true:=by
    cases h:isVr o
    ·rw [h] at hq;simp at hq
    ·rfl
   have h2:(s.toList == nm.toList)=true:=(by rw [h1] at hq;simpa using hq);rw [h1] at e2;have BF:Hid (ExS (fun x=>x<M) w (xv b.op b.n b.nm (.slice pb b.args.length kb)) b):=Lh hby.foot;have HFR:=Lh FR0;have r0:=FR0.f0;have r1:=FR0.f1;have r2:=FR0.f2;have r3:=FR0.f3;clear hx ha ih hby hq h1 FB0 FY0 FR0 hs hbs hsz2 HIH HA hb3;generalize b.op=bo at *
   generalize b.n=bn at *
   generalize b.nm=bm at *
   generalize b.args.length=bk at *
   go_enter Tryz.func139,Tryz.ntmps139
   go_wp2;have f5:=Four.new ((w.alloc (.cells #[.int .i64 o,.int .i64 num,.string s,.slice p K cap] 43)).alloc (.cells #[.int .i64 bo,.int .i64 bn,.string bm,.slice pb bk kb] 43)) (.int .i64 bo) (.int .i64 bn) (.string bm) (.slice pb bk kb) 43;simp only [World.size_alloc] at f5;have p0:=f5.c0;have p1:=f5.c1;have p2:=f5.c2;have p3:=f5.c3;have fin:∀ W,Below w.heap.size w W→tFo M b w (.returned (xv bo bn bm (.slice pb bk kb))) W:=(fun W hW=>⟨_,rfl,BF.out.grown (grown_of_below hW) (fun x hx=>⟨.inl hx,by omega,by simp⟩),hW⟩);refine bodyPost_ret (v:=xv bo bn bm (.slice pb bk kb)) (by simp [results,Tryz.results139,go_sem,p0,p1,p2,p3]) rfl (fin _ ?_);exact (((Below.refl _ _).alloc (Nat.le_refl _) _).alloc (by simp) _).alloc (by simp;omega) _
  ·rw [if_neg hq];have FB1:=FB0.alloc (.cells #[.int .i64 o,.int .i64 num,.string s,.slice none 0 0] 43);have FY1:=FY0.alloc (.cells #[.int .i64 o,.int .i64 num,.string s,.slice none 0 0] 43);have FR1:=FR0.alloc (.cells #[.int .i64 o,.int .i64 num,.string s,.slice none 0 0] 43);have FO1:=Four.new (((w.alloc (.cells #[.int .i64 o,.int .i64 num,.string s,.slice p K cap] 43)).alloc (.cells #[.int .i64 b.op,.int .i64 b.n,.string b.nm,.slice pb b.args.length kb] 43)).alloc (.cells #[.int .i64 0,.int .i64 0,.string ⟨#[]⟩,.slice none 0 0] 43)) (.int .i64 o) (.int .i64 num) (.string s) (.slice none 0 0) 43;simp only [World.size_alloc] at FO1;have HFB:=Lh FB1;have HFY:=Lh FY1;have HFR:=Lh FR1;have HFO:=Lh FO1;have HB4:=Lh (hb3.then_ ((Below.refl _ _).alloc (Nat.le_refl _) (.cells #[.int .i64 o,.int .i64 num,.string s,.slice none 0 0] 43)));have hq2:(isVr o&&(s.toList == nm.toList))=false:=(by simpa using hq);have hqc:isVr o=false∨(isVr o=true∧(s.toList == nm.toList)=false):=by
    cases h:isVr o
    ·exact .inl rfl
    ·rw [h] at hq2;exact .inr ⟨rfl,by simpa using hq2⟩
   clear hx ha ih hq hq2 FB0 FY0 FR0 FB1 FY1 FR1 FO1 hs hsz2 hb3 y0 y1 y2 y3 hby
   go_enter Tryz.func139,Tryz.ntmps139
   go_upto_region 1 with (fail)
   go_cut [17] (fun s17 wx=>s17=.bool false∧wx=(((w.alloc (.cells #[.int .i64 o,.int .i64 num,.string s,.slice p K cap] 43)).alloc (.cells #[.int .i64 b.op,.int .i64 b.n,.string b.nm,.slice pb b.args.length kb] 43)).alloc (.cells #[.int .i64 0,.int .i64 0,.string ⟨#[]⟩,.slice none 0 0] 43)))
   case first =>
    rcases hqc with h1 | ⟨h1,h2⟩
    all_goals
     rw [h1] at e2;clear h1;go_wp2_with fail
     go_meet
     exact⟨rfl,rfl⟩
   case rest =>
    obtain⟨rfl,rfl⟩:=hcut;clear hqc e2;go_wp2;go_loopw [8] (fun i wr=>∃ j:Nat,j≤K∧i=.int .i64 j∧(∃ va,Hid (Four wr (w.heap.size+1+1+1) (.int .i64 o) (.int .i64 num) (.string s) va)∧Hid (∃ pl2 cl2,KidsP M (w.heap.size+1+1+1+1) none wr va ((ks.take j).map (su nm b)) pl2 cl2))∧Hid (Below w.heap.size w wr)∧Hid (Four wr w.heap.size (.int .i64 o) (.int .i64 num) (.string s) (.slice p K cap))∧Hid (Four wr (w.heap.size+1) (.int .i64 b.op) (.int .i64 b.n) (.string b.nm) (.slice pb b.args.length kb))∧Hid (Four wr (w.heap.size+1+1) (.int .i64 0) (.int .i64 0) (.string ⟨#[]⟩) (.slice none 0 0))) (fun i _=>K - (intOf i).toNat)
    case atStart=>exact⟨0,Nat.zero_le _,rfl,⟨.slice none 0 0,HFO,Lh ⟨_,_,KidsP.nil _ _ _ _⟩⟩,HB4,HFB,HFY,HFR⟩
    case round =>
     obtain⟨j,hj,rfl,⟨va,FO,KP⟩,BW,FB,FY,FR⟩:=hrel;clear d0 d1 d2 d3;have d3:=FB.out.c3;by_cases hlt:j<K
     ·obtain⟨b0,off,rfl,hbs0,hcell⟩:=HA.out.hp (by rw [HK.out];omega);obtain⟨a,hak⟩:∃ a,ks[j]? = some a:=⟨_,List.getElem?_eq_getElem (by rw [HK.out];exact hlt)⟩;obtain⟨q0,q1,q2,q3⟩:=hcell j a hak;have hbw:Below N w wr:=BW.out.mono hN;have ca0:wr.cell? ⟨b0,off+j*4,none⟩=some (.int .i64 a.op):=(by rw [hbw.cell hbs0];exact q0);have ca1:wr.cell? ⟨b0,off+j*4+1,none⟩=some (.int .i64 a.n):=(by rw [hbw.cell hbs0];exact q1);have ca2:wr.cell? ⟨b0,off+j*4+2,none⟩=some (.string a.nm):=(by rw [hbw.cell hbs0];exact q2);have ca3:wr.cell? ⟨b0,off+j*4+3,none⟩=some (.slice (pl j) a.args.length (cl j)):=(by rw [hbw.cell hbs0];exact q3);have hxa:=HA.out.hx j a hak;have hws:=BW.out.size;have VC:∀ W,Below wr.heap.size wr W→Calls Tryz.prog 139 #[xv a.op a.n a.nm (.slice (pl j) a.args.length (cl j)),.string nm,xv b.op b.n b.nm (.slice pb b.args.length kb)] W (tFo M (su nm b a) W):=(fun W hW=>HIH.out a (List.mem_of_getElem? hak) W _ ((hxa.under hbw).under (hW.mono (by omega))) (by have:=hW.size;omega) (HSZ.out a (List.mem_of_getElem? hak)) ((HBY.out.under (hbw.mono hMN)).under (hW.mono (by omega))));have TM:=take_mapS (su nm b) hak;obtain⟨xs,hxs⟩:∃ xs,(ks.take j).map (su nm b)=xs:=⟨_,rfl⟩;have hxl:xs.length=j:=(by rw [←hxs,List.length_map,List.length_take,HK.out];omega);rw [hxs] at TM KP;obtain⟨x,hx⟩:∃ x,su nm b a=x:=⟨_,rfl⟩;rw [hx] at TM VC;have HTM:=Lh TM;have hx33:xs.length≤10000:=(by omega);obtain⟨pl2,cl2,kd⟩:=KP.out;obtain⟨vq,vk,vc,rfl⟩:=own_slice kd.row;have KD:=Lh kd;obtain⟨ao,hao⟩:∃ x,a.op=x:=⟨_,rfl⟩;obtain⟨an,han⟩:∃ x,a.n=x:=⟨_,rfl⟩;obtain⟨am,ham⟩:∃ x,a.nm=x:=⟨_,rfl⟩;obtain⟨ak,hka⟩:∃ x,a.args.length=x:=⟨_,rfl⟩;obtain⟨ap,hap⟩:∃ x,pl j=x:=⟨_,rfl⟩;obtain⟨ac,hac⟩:∃ x,cl j=x:=⟨_,rfl⟩;rw [hao] at ca0 VC;rw [han] at ca1 VC;rw [ham] at ca2 VC;rw [hka,hap,hac] at ca3 VC;have VC:=Lh VC;have hG:=FO.out.lt;have hva:=(fun b e=>own_lt KD.out.row b e);have HVA:=Lh hva;have g3:=FO.out.c3;have y0:=FY.out.c0;have y1:=FY.out.c1;have y2:=FY.out.c2;have y3:=FY.out.c3;clear hcell q0 q1 q2 q3 hbw hxa hak hao han ham hka hap hac TM hx hxs hxl kd hva;go_wp2
      go_region_law (first
       | ((refine step_append_lies _ rfl (.tmp 34) (.tmp 43) 41 rfl (w.heap.size+1+1+1+1) 43 j0 (.agg #[.int .i64 0,.int .i64 0,.string ⟨#[]⟩,.slice none 0 0]) 4 56 Tryz.underlying41 gi gz0 gz1 gz2 rfl (by decide) (.slice vq vk vc) xs.length (exCells pl2 cl2 0 xs) (by simp [Act.eval]) ((row_later KD.out.row HB5.out).alloc _) ⟨w5.heap.size,0,none⟩ 1 1 [.int .i64 x.op,.int .i64 x.n,.string x.nm,.slice p5 x.args.length k5] (by simp [Act.eval]) rfl (by exact cell_four_at rfl _ _ _ _ _) (one_four _ _ _ _ _ _) (by omega) (by unfold maxLen;omega) (by omega) (by have:=HB5.out.size;simp;omega) _ rfl ?_;intro g7 k7 w7 hown hgr hat hlt;have HO7:=Lh hown;have HG7:=Lh hgr;have HT7:=Lh hat;have F7:=four_grown ((FO.out.stay HB5.out).alloc (.cells #[.int .i64 x.op,.int .i64 x.n,.string x.nm,.slice p5 x.args.length k5] 43)) hgr (fun e=>by have:=(HVA.out _ e.symm).1;omega);have f73:=F7.c3;have z73:=F7.f3;clear hown hgr hat F7))
       | (go_simp;go_at_call 139;(with_reducible refine (VC.out _ ?_).mono ?_);(first | exact (Below.refl _ _).drew | exact Below.refl _ _);rintro e w5 ⟨v5,rfl,hf5,hb5⟩;obtain⟨p5,k5,rfl,hs5⟩:=ex_valS hf5;have hb5':=(Below.refl wr.heap.size wr).drew.then_ hb5;have F5:=FO.out.stay hb5';have g53:=F5.c3;have z53:=F5.f3;have gl5:=F5.lt;have g54:=(F5.alloc (.cells #[.int .i64 x.op,.int .i64 x.n,.string x.nm,.slice p5 x.args.length k5] 43)).c3;have HF5:=Lh hf5;have HB5:=Lh hb5';clear F5 hf5 hb5 hb5'))
      all_goals
       obtain⟨hk,hfo,hbw,hfour⟩:=su_round (C:=(.cells #[.int .i64 x.op,.int .i64 x.n,.string x.nm,.slice p5 x.args.length k5] 43)) KD.out FO.out BW.out (by omega) (by omega) (by omega) (by omega) HB5.out HF5.out HO7.out HG7.out HT7.out;have HKF:=Lh hk;have HFF:=Lh hfo;have HBF:=Lh hbw;have HB4:=Lh (hfour _ _ _ _ _ (by omega) FB.out);have HY4:=Lh (hfour _ _ _ _ _ (by omega) FY.out);have HR4:=Lh (hfour _ _ _ _ _ (by omega) FR.out);clear hk hfo hbw hfour;go_wp2;go_roundw
       case rel=>exact⟨j+1,by omega,by go_num,⟨_,HFF,Lh (by rw [HTM.out];exact HKF.out)⟩,HBF,HB4,HY4,HR4⟩
       case measure=>simp [intOf];omega
     ·have hjK:ks.take j=ks:=List.take_of_length_le (by rw [HK.out];omega);have hjk:j=K:=(by omega);subst hjk;rw [hjK] at KP;have hlen:(ks.map (su nm b)).length=j:=(by rw [List.length_map];exact HK.out);obtain⟨pl2,cl2,kd⟩:=KP.out;obtain⟨vq,vk,vc,rfl⟩:=own_slice kd.row;have f0:=FO.out.c0;have f1:=FO.out.c1;have f2:=FO.out.c2;have f3:=FO.out.c3;have r0:=FR.out.f0;have r1:=FR.out.f1;have r2:=FR.out.f2;have r3:=FR.out.f3;have y0:=FR.out.c0;have y1:=FR.out.c1;have y2:=FR.out.c2;have y3:=FR.out.c3;have hws:=BW.out.size;have hgl:=FO.out.lt;have HKD:=Lh kd;have HLEN:=Lh hlen;clear kd hlen hjK;go_wp2;have hp:=FR.out.put (.int .i64 o) (.int .i64 num) (.string s) (.slice vq vk vc);have p0:=hp.c0;have p1:=hp.c1;have p2':=hp.c2;have p3:=hp.c3;refine bodyPost_ret (v:=xv o num s (.slice vq vk vc)) (by simp [results,Tryz.results139,go_sem,p0,p1,p2',p3]) rfl ⟨_,rfl,?_,below_put BW.out (by omega) _ _ _ _⟩;have h:=HKD.out.done (lo':=w.heap.size+1+1+1+1) (o:=o) (n:=num) (s:=s) HS.out (by rw [HLEN.out];omega) (Nat.le_refl _);exact ((((h.set (g:=w.heap.size+1+1) (by omega) (by omega) (by omega)).set (g:=w.heap.size+1+1) (by omega) (by omega) (by rw [setCell_size];omega)).set (g:=w.heap.size+1+1) (by omega) (by omega) (by simp only [setCell_size];omega)).set (g:=w.heap.size+1+1) (by omega) (by omega) (by simp only [setCell_size];omega)).weak (fun b hb=>hb.up (by omega) (Nat.le_refl _))
end ExW
end Go.Proofs.YtpejflgdehioaaaGreatDoor
