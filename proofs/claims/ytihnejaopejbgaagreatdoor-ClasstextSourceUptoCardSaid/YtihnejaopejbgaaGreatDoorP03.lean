/-
  Laws that the card uses; no conditions beside those that each states (EtBack ClMath ExVal ItMath ItRExM CtMath CtUniq CtClass LexSmall).
-/
import Derived.Test.YtihnejaopejbgaaGreatDoorRows
import Derived.WalkKit
import Derived.Outline
import Derived.WalkSpells
import Derived.Deep.DeepFit
import Derived.Lib.Hide
import Derived.LoopTactic
import Derived.Deep.QuietTactic
import Derived.BigQuiet
import Derived.Test.YtihnejaopejbgaaGreatDoorP01
set_option maxRecDepth 100000
set_option maxHeartbeats 16000000
namespace Go.Proofs.YtihnejaopejbgaaGreatDoor
namespace EtM
open Go NumM LexM ExM
theorem need_mk (m:List UInt8) (l:List Tk) (g:List Tk→Rs):need m (⟨4,0,m,1⟩::l) g=g l:=by
 unfold need;rw [if_pos (show tx (⟨4,0,m,1⟩::l)=m from rfl)];rfl
theorem ro {f:Nat} {j:Jb} {l:List Tk} (h:run f j l≠.out):res j l=run f j l:=(res_of h).symm
theorem res_ch (l:List Tk):res .ch l=(res (.op 2) l).bind fun c r=>if tx r=[63] then (res .ch r.tail).bind fun a r2=>need [58] r2 fun r3=>(res .ch r3).bind fun b r4=>.ok (nod 22 [c,a,b]) r4 else .ok c r:=by
 have h:run (8*l.length+6+1) .ch l≠.out:=res_ne .ch l
 symm
 show _=run (8*l.length+6+1) .ch l;rw [run] at h
 conv=>rhs;rw [run]
 refine (bind_mono h ro fun c r hg=>?_);split
 ·rename_i q;rw [if_pos q] at hg;exact bind_mono hg ro fun a r2 h2=>need_mono h2 fun r3 h3=>bind_mono h3 ro fun _ _ _=>rfl
 ·rfl
theorem res_op (lv:Int) (l:List Tk):res (.op lv) l=(res .pf l).bind fun e r=>res (.lp lv 13 e) r:=by
 have h:run (8*l.length+5+1) (.op lv) l≠.out:=res_ne (.op lv) l
 symm
 show _=run (8*l.length+5+1) (.op lv) l;rw [run] at h
 conv=>rhs;rw [run]
 exact bind_mono h ro fun e r h2=>ro h2
theorem res_lp (lv rc:Int) (e:Ex) (l:List Tk):res (.lp lv rc e) l =
  if (bT (tx l)).1≠0∧lv≤(bT (tx l)).1∧(bT (tx l)).1≤rc then (res (.jn (bT (tx l)).1 (bT (tx l)).2.1 (bT (tx l)).2.2 e) l.tail).bind fun e2 r=>res (.lp lv (bT (tx l)).1 e2) r
  else if lv≤9∧tx l=insW then (res (.rg e) l.tail).bind fun e2 r=>res (.lp lv 9 e2) r
  else .ok e l:=by
 have h:run (8*l.length+1+1) (.lp lv rc e) l≠.out:=res_ne (.lp lv rc e) l
 symm
 show _=run (8*l.length+1+1) (.lp lv rc e) l;rw [run] at h
 conv=>rhs;rw [run]
 split
 ·rename_i q;rw [if_pos q] at h;exact bind_mono h ro fun e2 r h2=>ro h2
 ·rename_i q;rw [if_neg q] at h;split
  ·rename_i q2;rw [if_pos q2] at h;exact bind_mono h ro fun e2 r h2=>ro h2
  ·rfl
theorem res_jn (k o:Int) (sw:Bool) (e:Ex) (l:List Tk):res (.jn k o sw e) l=(res (.op (if k=2 then 2 else k+1)) l).bind fun b r=>.ok (nod o (if sw then [b,e] else [e,b])) r:=by
 have h:run (8*l.length+6+1) (.jn k o sw e) l≠.out:=res_ne (.jn k o sw e) l
 symm
 show _=run (8*l.length+6+1) (.jn k o sw e) l;rw [run] at h
 conv=>rhs;rw [run]
 exact bind_mono h ro fun _ _ _=>rfl
theorem res_rg (e:Ex) (l:List Tk):res (.rg e) l=need [123] l fun r=>res (.rl [e]) r:=by
 have h:run (8*l.length+0+1) (.rg e) l≠.out:=res_ne (.rg e) l
 symm
 show _=run (8*l.length+0+1) (.rg e) l;rw [run] at h
 conv=>rhs;rw [run]
 exact need_mono h fun r h2=>ro h2
theorem res_rl (acc:List Ex) (l:List Tk):res (.rl acc) l =
  (res .ch l).bind fun a r=>need [46,46] r fun r2=>(res .ch r2).bind fun b r3=>if tx r3=[44] then res (.rl (acc++[a,b])) r3.tail else need [125] r3 fun r4=>.ok (nod 23 (acc++[a,b])) r4:=by
 have h:run (8*l.length+7+1) (.rl acc) l≠.out:=res_ne (.rl acc) l
 symm
 show _=run (8*l.length+7+1) (.rl acc) l;rw [run] at h
 conv=>rhs;rw [run]
 refine (bind_mono h ro fun a r h2=>need_mono h2 fun r2 h3=>bind_mono h3 ro fun b r3 h4=>?_);split
 ·rename_i q;rw [if_pos q] at h4;exact ro h4
 ·rfl
theorem res_pf (l:List Tk):res .pf l=if pT (tx l)≠0 then (res .pf l.tail).bind fun a r=>.ok (nod (pT (tx l)) [a]) r else res .pr l:=by
 have h:run (8*l.length+4+1) .pf l≠.out:=res_ne .pf l
 symm
 show _=run (8*l.length+4+1) .pf l;rw [run] at h
 conv=>rhs;rw [run]
 split
 ·rename_i q;rw [if_pos q] at h;exact bind_mono h ro fun _ _ _=>rfl
 ·rename_i q;rw [if_neg q] at h;exact ro h
theorem res_pr (l:List Tk):res .pr l=if kd l=3 then numR l fun n r=>.ok (.mk 1 n ⟨#[]⟩ []) r else if kd l=1 then res (.nm (tx l)) l.tail else need [40] l fun r=>(res .ch r).bind fun e r2=>need [41] r2 fun r3=>.ok e r3:=by
 have h:run (8*l.length+3+1) .pr l≠.out:=res_ne .pr l
 symm
 show _=run (8*l.length+3+1) .pr l;rw [run] at h
 conv=>rhs;rw [run]
 split
 ·rfl
 ·rename_i q;rw [if_neg q] at h;split
  ·rename_i q2;rw [if_pos q2] at h;exact ro h
  ·rename_i q2;rw [if_neg q2] at h;exact need_mono h fun r h2=>bind_mono h2 ro fun _ _ _=>rfl
theorem res_nm (s:List UInt8) (l:List Tk):res (.nm s) l =
  if s=sumW∧tx l=[40] then nameR l.tail fun m r=>need [41] r fun r2=>.ok (.mk 24 0 (mb m) []) r2
  else if s=onesW∧tx l=[40] then (res .ch l.tail).bind fun a r=>need [41] r fun r2=>.ok (nod 25 [a]) r2
  else if tx l=[91] then (res .ch l.tail).bind fun a r=>need [93] r fun r2=>.ok (.mk 3 0 (mb s) [a]) r2
  else if tx l=[64] then numR l.tail fun n r=>.ok (.mk 2 0 (mb (elN s n)) []) r
  else .ok (.mk 2 0 (mb s) []) l:=by
 have h:run (8*l.length+2+1) (.nm s) l≠.out:=res_ne (.nm s) l
 symm
 show _=run (8*l.length+2+1) (.nm s) l;rw [run] at h
 conv=>rhs;rw [run]
 split
 ·rfl
 ·rename_i q;rw [if_neg q] at h;split
  ·rename_i q2;rw [if_pos q2] at h;exact bind_mono h ro fun _ _ _=>rfl
  ·rename_i q2;rw [if_neg q2] at h;split
   ·rename_i q3;rw [if_pos q3] at h;exact bind_mono h ro fun _ _ _=>rfl
   ·rfl
structure Fol (k:Int) (r:List Tk):Prop where
 lev:(bT (tx r)).1<k
 ins:tx r=insW→9<k
 par:tx r≠[40]
 brk:tx r≠[91]
 att:tx r≠[64]
theorem Fol.mono {k k':Int} {r:List Tk} (h:Fol k r) (hk:k≤k'):Fol k' r:=⟨by have:=h.lev;omega,fun g=>by have:=h.ins g;omega,h.par,h.brk,h.att⟩
structure Stop (r:List Tk):Prop where
 fol:Fol 1 r
 ask:tx r≠[63]
theorem stop_mark {m:List UInt8} {r:List Tk} {t:Tk} (ht:t.text=m) (h1:(bT m).1<1) (h2:m≠insW) (h3:m≠[40]) (h4:m≠[91]) (h5:m≠[64]) (h6:m≠[63]):Stop (t::r):=by
 subst ht;exact⟨⟨h1,fun g=>absurd g h2,h3,h4,h5⟩,h6⟩
theorem fol_mark {m:List UInt8} {r:List Tk} {t:Tk} {k:Int} (ht:t.text=m) (h1:(bT m).1<k) (h2:m≠insW) (h3:m≠[40]) (h4:m≠[91]) (h5:m≠[64]):Fol k (t::r):=by
 subst ht;exact⟨h1,fun g=>absurd g h2,h3,h4,h5⟩
theorem stop_nil:Stop []:=⟨⟨by decide,(fun g=>by cases g),by decide,by decide,by decide⟩,by decide⟩
theorem lp_end {lv rc:Int} {e:Ex} {r:List Tk} (h:Fol lv r):res (.lp lv rc e) r=.ok e r:=by
 rw [res_lp,if_neg (fun g=>by have:=h.lev;omega),if_neg (fun g=>by have:=h.ins g.2;omega)]
theorem bok (e:Ex) (r:List Tk) (g:Ex→List Tk→Rs):(Rs.ok e r).bind g=g e r:=rfl
abbrev T (e:Ex):List Tk:=toks (bare e)
abbrev mkT (m:List UInt8):Tk:=⟨4,0,m,1⟩
abbrev wdT (k n:Int) (x:List UInt8):Tk:=⟨k,n,x,1⟩
structure Back (e:Ex):Prop where
 pf:13≤lvS e.op→∀ r,tx r≠[40]→tx r≠[91]→tx r≠[64]→res .pf (T e++r)=.ok e r
 op:2≤lvS e.op→∀ lv r,lv≤lvS e.op→Fol (if lvS e.op=2 then 2 else lvS e.op+1) r→res (.op lv) (T e++r)=res (.lp lv (min 13 (lvS e.op)) e) r
 ch:∀ r,Stop r→res .ch (T e++r)=.ok e r
theorem pT_word {x:List UInt8} (h:x.all wrd=true):pT x=0:=by
 unfold pT;rw [if_neg (fun e=>by rw [e] at h;revert h;decide),if_neg (fun e=>by rw [e] at h;revert h;decide),if_neg (fun e=>by rw [e] at h;revert h;decide)]
theorem tx_cons (t:Tk) (l:List Tk):tx (t::l)=t.text:=rfl
theorem kd_cons (t:Tk) (l:List Tk):kd (t::l)=t.kind:=rfl
theorem paren {e:Ex} (h:Back e) (r:List Tk):res .pf (mkT [40]::(T e++mkT [41]::r))=.ok e r:=by
 rw [res_pf,if_neg (by rw [tx_cons];decide),res_pr,if_neg (by rw [kd_cons];decide),if_neg (by rw [kd_cons];decide),need_mk];rw [h.ch _ (stop_mark rfl (by decide) (by decide) (by decide) (by decide) (by decide) (by decide))];rw [bok];rw [need_mk]
theorem tx_mkT (m:List UInt8) (l:List Tk):tx (mkT m::l)=m:=rfl
theorem kd_wdT (k n:Int) (x:List UInt8) (l:List Tk):kd (wdT k n x::l)=k:=rfl
theorem nmr_wdT (k n:Int) (x:List UInt8) (l:List Tk):nmr (wdT k n x::l)=n:=rfl
theorem lev_bx (e:Ex):lvS (bx e).1=lvS e.op:=rfl
theorem plc_pf {e:Ex} (h:Back e) (r:List Tk) (h1:tx r≠[40]) (h2:tx r≠[91]) (h3:tx r≠[64]):res .pf (toks (plc 13 (bx e))++r)=.ok e r:=by
 rw [toks_plc];split
 ·rw [List.cons_append,List.append_assoc];exact paren h r
 ·rename_i g;exact h.pf (by rw [lev_bx] at g;omega) r h1 h2 h3
theorem plc_bk {e:Ex} (h:Back e) {p lv:Int} (hp:2≤p) (hp2:p≤13) (hl:lv≤p) (r:List Tk) (hr:Fol (if p=2 then 2 else p+1) r):∃ rc,p≤rc∧res (.op lv) (toks (plc p (bx e))++r)=res (.lp lv rc e) r:=by
 rw [toks_plc];split
 ·refine⟨13,hp2,?_⟩;rw [List.cons_append,List.append_assoc,res_op];show (res .pf (mkT [40]::(T e++mkT [41]::r))).bind _=_;rw [paren h];rfl
 ·rename_i g;rw [lev_bx] at g;refine⟨min 13 (lvS e.op),by omega,h.op (by omega) lv r (by omega) (hr.mono ?_)⟩;split<;>split<;>omega
theorem plc_one {e:Ex} (h:Back e) (r:List Tk) (hr:Stop r):res .ch (toks (plc 1 (bx e))++r)=.ok e r:=by
 rw [toks_plc];split
 ·rename_i g;rw [lev_bx] at g;exfalso;unfold lvS at g;split at g
  ·omega
  ·split at g
   ·omega
   ·split at g
    ·rename_i q;have:bLev e.op=0∨1<bLev e.op:=by
      unfold bLev;repeat' split
      all_goals omega
     omega
    ·split at g<;>omega
 ·exact h.ch r hr
theorem bin_facts {o:Int} (h:7≤o) (h':o≤21):bT (bMark o)=(bLev o,o,false)∧bMark o≠insW∧bMark o≠[40]∧bMark o≠[91]∧bMark o≠[64]∧2≤bLev o∧bLev o≤12∧lvS o=bLev o:=by
 have:o=7∨o=8∨o=9∨o=10∨o=11∨o=12∨o=13∨o=14∨o=15∨o=16∨o=17∨o=18∨o=19∨o=20∨o=21:=(by omega);rcases this with rfl | rfl | rfl | rfl | rfl | rfl | rfl | rfl | rfl | rfl | rfl | rfl | rfl | rfl | rfl<;>decide
structure Pr (o:Int) (e:Ex):Prop where
 lev:13≤lvS o
 run:∀ r,tx r≠[40]→tx r≠[91]→tx r≠[64]→res .pf (T e++r)=.ok e r
theorem back_pr {e:Ex} (h:Pr e.op e):Back e:=by
 have hop:∀ lv r,tx r≠[40]→tx r≠[91]→tx r≠[64]→res (.op lv) (T e++r)=res (.lp lv 13 e) r:=fun lv r h1 h2 h3=>by
  rw [res_op,h.run r h1 h2 h3];rfl
 have hl:=h.lev;refine⟨fun _=>h.run,fun _ lv r _ hf=>?_,fun r hr=>?_⟩
 ·rw [hop lv r hf.par hf.brk hf.att,show min 13 (lvS e.op)=13 by omega]
 ·rw [res_ch,hop 2 r hr.fol.par hr.fol.brk hr.fol.att,lp_end (hr.fol.mono (by decide))];rw [bok];rw [if_neg hr.ask]
theorem back_op {e:Ex} (h1:2≤lvS e.op) (h2:lvS e.op≤12) (h:∀ lv r,lv≤lvS e.op→Fol (if lvS e.op=2 then 2 else lvS e.op+1) r→res (.op lv) (T e++r)=res (.lp lv (lvS e.op) e) r):Back e:=by
 refine⟨fun g=>by omega,fun _ lv r hl hf=>?_,fun r hr=>?_⟩
 ·rw [h lv r hl hf,show min 13 (lvS e.op)=lvS e.op by omega]
 ·rw [res_ch,h 2 r (by omega) (hr.fol.mono (by split<;>omega)),lp_end (hr.fol.mono (by decide))];rw [bok];rw [if_neg hr.ask]
theorem toks_mk (m:List UInt8) (l:List Pc):toks (.mk m::l)=mkT m::toks l:=rfl
theorem toks_wd (k n:Int) (x:List UInt8) (l:List Pc):toks (.wd k n x::l)=wdT k n x::toks l:=rfl
theorem toks_sp (l:List Pc):toks (.sp::l)=toks l:=rfl
theorem nm_res (s:List UInt8) (r:List Tk) (h1:tx r≠[40]) (h2:tx r≠[91]) (h3:tx r≠[64]):res (.nm s) r=.ok (.mk 2 0 (mb s) []) r:=by
 rw [res_nm,if_neg (fun g=>h1 g.2),if_neg (fun g=>h1 g.2),if_neg h2,if_neg h3]
theorem nm_first {s:List UInt8} (ha:s.all wrd=true) (l:List Tk):res .pf (wdT 1 0 s::l)=res (.nm s) l:=by
 rw [res_pf,if_neg (fun g=>g (pT_word ha)),res_pr,if_neg (show ¬ kd (wdT 1 0 s::l)=3 from (by decide:¬ (1:Int)=3)),if_pos (show kd (wdT 1 0 s::l)=1 from rfl)];rfl
theorem rl_back:∀ (n:Nat) (xs:List Ex) (acc:List Ex) (r:List Tk),xs.length≤n→2≤xs.length→xs.length % 2=0→(∀ x∈xs,Back x)→res (.rl acc) (toks (rgs (xs.map bx))++mkT [125]::r)=.ok (nod 23 (acc++xs)) r
 | 0,xs,_,_,h,h2,_,_=>by omega
 | n+1,xs,acc,r,h,h2,h3,hx=>by
  match xs,h,h2,h3,hx with
  | [],_,h2,_,_=>simp at h2
  | [_],_,h2,_,_=>simp at h2
  | a::b::q,h,h2,h3,hx =>
   have ha:=hx a (by simp);have hb:=hx b (by simp);cases q with
   | nil =>
    simp only [List.map_cons,List.map_nil];rw [rgs];rw [toks_app,toks_sp,toks_mk,toks_sp,toks_app,toks_nil,List.append_nil,List.append_assoc,List.cons_append,res_rl,plc_one ha _ (stop_mark rfl (by decide) (by decide) (by decide) (by decide) (by decide) (by decide))];rw [bok];rw [need_mk,plc_one hb _ (stop_mark rfl (by decide) (by decide) (by decide) (by decide) (by decide) (by decide))];rw [bok];rw [if_neg (by rw [tx_cons];decide),need_mk]
   | cons c q =>
    have hr:=rl_back n (c::q) (acc++[a,b]) r (by simp at h ⊢;omega) (by simp at h3 ⊢;omega) (by simp at h3 ⊢;omega) (fun x hxq=>hx x (List.mem_cons_of_mem _ (List.mem_cons_of_mem _ hxq)));simp only [List.map_cons] at hr ⊢;rw [rgs]
    ·rw [toks_app,toks_sp,toks_mk,toks_sp,toks_app,toks_mk,toks_sp,List.append_assoc,List.cons_append,List.append_assoc,List.cons_append,res_rl,plc_one ha _ (stop_mark rfl (by decide) (by decide) (by decide) (by decide) (by decide) (by decide))];rw [bok];rw [need_mk,plc_one hb _ (stop_mark rfl (by decide) (by decide) (by decide) (by decide) (by decide) (by decide))];rw [bok];rw [tx_mkT,if_pos rfl,List.tail_cons,hr,List.append_assoc];rfl
    ·simp
theorem back_form {o n:Int} {s:ByteArray} {ks:List Ex} (h:Sh o n s ks) (hk:∀ a∈ks,Back a):Back (.mk o n s ks):=by
 have hT:T (.mk o n s ks)=toks (form o n s.data.toList (ks.map bx)):=(by rw [T,bare_mk]);cases h with
 | con _ h0 h1 =>
  refine back_pr ⟨(by decide:(13:Int)≤lvS 1),fun r _ _ _=>?_⟩;rw [hT,show toks (form 1 n (ByteArray.mk #[]).data.toList (List.map bx []))=[wdT 3 n (Lib.itoa n)] from rfl];rw [List.cons_append,List.nil_append,res_pf,if_neg (fun g=>g (pT_word (itoa_parts h0 h1).2.1)),res_pr,kd_wdT,if_pos rfl];unfold numR;rw [kd_wdT,if_pos rfl,nmr_wdT,if_neg (by omega)];rfl
 | var _ h =>
  refine back_pr ⟨(by decide:(13:Int)≤lvS 2),fun r h1 h2 h3=>?_⟩;rw [hT,show form 2 0 s.data.toList (List.map bx [])=varP s.data.toList from rfl];by_cases he:elmB s.data.toList=true
  ·obtain⟨q,d,e,hq,d1,d2⟩:=elm_parts he;rw [varP_elm e he,toks_wd,toks_mk,toks_wd,toks_nil,List.cons_append,nm_first (nm_parts hq).2.1];rw [res_nm,if_neg (fun g=>by simp [tx_cons] at g),if_neg (fun g=>by simp [tx_cons] at g),if_neg (by rw [List.cons_append,tx_cons];decide),List.cons_append,tx_mkT,if_pos rfl];unfold numR;rw [List.tail_cons,List.cons_append,List.nil_append,kd_wdT,if_pos rfl,nmr_wdT,if_neg (by omega),List.tail_cons];have:elN q ((d.toNat:Int) - 48)=s.data.toList:=(by unfold elN;rw [dig_itoa d1 (by omega),e];rfl);show Rs.ok (.mk 2 0 (mb (elN q ((d.toNat:Int) - 48))) []) r=_;rw [this]
  ·have hs:nmB s.data.toList=true:=by
    unfold varB at h;cases e:nmB s.data.toList
    ·rw [e] at h;simp at h;exact absurd h he
    ·rfl
   unfold varP;rw [if_neg he,toks_wd,toks_nil,List.cons_append,nm_first (nm_parts hs).2.1,List.nil_append,nm_res _ r h1 h2 h3]
 | sum _ h =>
  refine back_pr ⟨(by decide:(13:Int)≤lvS 24),fun r h1 h2 h3=>?_⟩;rw [hT,show toks (form 24 0 s.data.toList (List.map bx []))=[wdT 1 0 sumW,mkT [40],wdT 1 0 s.data.toList,mkT [41]] from rfl];rw [List.cons_append,nm_first (by decide),res_nm,if_pos ⟨rfl,rfl⟩];unfold nameR;rw [List.cons_append,List.tail_cons,List.cons_append,kd_wdT,if_pos rfl,List.tail_cons,List.cons_append,List.nil_append];show need [41] (mkT [41]::r) _=_;rw [need_mk];rfl
 | elm _ a h =>
  have ha:=hk a (by simp);refine back_pr ⟨(by decide:(13:Int)≤lvS 3),fun r h1 h2 h3=>?_⟩;rw [hT,show form 3 0 s.data.toList (List.map bx [a])=.wd 1 0 s.data.toList::.mk [91]::(plc 1 (bx a)++[.mk [93]]) from rfl];rw [toks_wd,toks_mk,toks_app,toks_mk,toks_nil,List.cons_append,nm_first (nm_parts h).2.1,List.cons_append,List.append_assoc,List.singleton_append];rw [res_nm,if_neg (fun g=>by simp [tx_cons] at g),if_neg (fun g=>by simp [tx_cons] at g),tx_mkT,if_pos rfl,List.tail_cons];rw [plc_one ha _ (stop_mark rfl (by decide) (by decide) (by decide) (by decide) (by decide) (by decide))];rw [bok,need_mk]
 | ons a =>
  have ha:=hk a (by simp);refine back_pr ⟨(by decide:(13:Int)≤lvS 25),fun r h1 h2 h3=>?_⟩;rw [hT,show form 25 0 (ByteArray.mk #[]).data.toList (List.map bx [a])=.wd 1 0 onesW::.mk [40]::(plc 1 (bx a)++[.mk [41]]) from rfl];rw [toks_wd,toks_mk,toks_app,toks_mk,toks_nil,List.cons_append,nm_first (by decide),List.cons_append,List.append_assoc,List.singleton_append];rw [res_nm,if_neg (fun g=>by have:=g.1;revert this;decide),if_pos ⟨rfl,rfl⟩,List.tail_cons];rw [plc_one ha _ (stop_mark rfl (by decide) (by decide) (by decide) (by decide) (by decide) (by decide))];rw [bok,need_mk];rfl
 | pre _ a h =>
  have ha:=hk a (by simp);have hm:pT (pMark o)=o:=(by rcases h with rfl | rfl | rfl<;>decide);refine back_pr ⟨(by rcases h with rfl | rfl | rfl<;>decide:(13:Int)≤lvS o),fun r h1 h2 h3=>?_⟩;rw [hT,List.map_cons,List.map_nil,form_pre h,toks_mk,List.cons_append,res_pf,if_pos (by rw [tx_cons,hm];omega),List.tail_cons,plc_pf ha r h1 h2 h3];rw [bok];rw [tx_cons,hm];rfl
 | bin _ a b h h' =>
  have ha:=hk a (by simp);have hb:=hk b (by simp);obtain⟨f1,f2,f3,f4,f5,f6,f7,f8⟩:=bin_facts h h';have e8:lvS (Ex.mk o 0 ⟨#[]⟩ [a,b]).op=bLev o:=f8;refine (back_op (by rw [e8];exact f6) (by rw [e8];exact f7) fun lv r hl hf=>?_);rw [e8] at hl hf ⊢;rw [hT,List.map_cons,List.map_cons,List.map_nil,form_bin h h'];unfold two;rw [toks_app,toks_sp,toks_mk,toks_sp,List.append_assoc,List.cons_append]
  obtain⟨rc,hrc,e1⟩:=plc_bk ha (p:=lPl o) (lv:=lv) (by unfold lPl;split<;>omega) (by unfold lPl;split<;>omega) (by unfold lPl;split<;>omega) (mkT (bMark o)::(toks (plc (rPl o) (bx b))++r))
   (fol_mark rfl (by rw [f1];unfold lPl;dsimp only;split<;>(try split)<;>omega) f2 f3 f4 f5)
  have hlp:bLev o≤rc:=(by unfold lPl at hrc;split at hrc<;>omega);rw [e1,res_lp,tx_cons,show (mkT (bMark o)).text=bMark o from rfl,f1,if_pos ⟨by show bLev o≠0;omega,hl,hlp⟩,List.tail_cons,res_jn];have er:(if bLev o=2 then (2:Int) else bLev o+1)=rPl o:=rfl;rw [er] at hf;dsimp only;rw [er];obtain⟨rc2,hrc2,e2⟩:=plc_bk hb (p:=rPl o) (lv:=rPl o) (by unfold rPl;split<;>omega) (by unfold rPl;split<;>omega) (Int.le_refl _) r (hf.mono (by split<;>omega));rw [e2,lp_end hf];rfl
 | iff a b c =>
  have ha:=hk a (by simp);have hb:=hk b (by simp);have hc:=hk c (by simp);refine⟨fun g=>absurd (show (13:Int)≤1 from g) (by decide),fun g=>absurd (show (2:Int)≤1 from g) (by decide),fun r hr=>?_⟩;rw [hT,show form 22 0 (ByteArray.mk #[]).data.toList (List.map bx [a,b,c])=thr (bx a) (bx b) (bx c) from rfl];unfold thr;rw [toks_app,toks_sp,toks_mk,toks_sp,toks_app,toks_sp,toks_mk,toks_sp,List.append_assoc,List.cons_append,List.append_assoc,List.cons_append,res_ch]
  obtain⟨rc,_,e1⟩:=plc_bk ha (p:=2) (lv:=2) (by decide) (by decide) (by decide) (mkT [63]::(toks (plc 1 (bx b))++mkT [58]::(toks (plc 1 (bx c))++r)))
   (fol_mark rfl (by decide) (by decide) (by decide) (by decide) (by decide))
  rw [e1,lp_end (fol_mark rfl (by decide) (by decide) (by decide) (by decide) (by decide))];rw [bok];rw [tx_mkT,if_pos rfl,List.tail_cons,plc_one hb _ (stop_mark rfl (by decide) (by decide) (by decide) (by decide) (by decide) (by decide))];rw [bok];rw [need_mk,plc_one hc r hr];rfl
 | ins a q h1 h2 h3 =>
  have ha:=hk a (by simp);refine (back_op (e:=.mk 23 0 ⟨#[]⟩ (a::q)) (by show (2:Int)≤9;decide) (by show (9:Int)≤12;decide) fun lv r hl hf=>?_);have hl9:lv≤9:=hl;rw [hT,show form 23 0 (ByteArray.mk #[]).data.toList (List.map bx (a::q))=EtM.ins (bx a) (q.map bx) from rfl];unfold EtM.ins;rw [toks_app,toks_sp,toks_wd,toks_sp,toks_mk,toks_sp,toks_app,toks_sp,toks_mk,toks_nil,List.append_assoc,List.cons_append,List.cons_append,List.append_assoc,List.cons_append,List.nil_append]
  obtain⟨rc,_,e1⟩:=plc_bk ha (p:=9) (lv:=lv) (by decide) (by decide) hl9 (wdT 2 0 insW::mkT [123]::(toks (rgs (q.map bx))++mkT [125]::r))
   ⟨by rw [tx_cons];decide,fun _=>by decide,by rw [tx_cons];decide,by rw [tx_cons];decide,by rw [tx_cons];decide⟩
  rw [e1,res_lp,if_neg (fun g=>g.1 (by rw [tx_cons];decide)),if_pos ⟨hl9,rfl⟩,List.tail_cons,res_rg,need_mk,rl_back _ q [a] r (Nat.le_refl _) h1 h3 (fun x hx=>hk x (by simp [hx]))];rfl
theorem back (e:Ex):Ok e→Back e:=by
 induction e using Ex.ind with
 | h o n s ks ih =>
  intro h;obtain⟨h1,h2⟩:=(ok_mk o n s ks).1 h;exact back_form (shape h1) (fun a ha=>ih a ha (h2 a ha))
theorem parse_prn {e:Ex} (h:Ok e):res .ch (T e)=.ok e []:=by
 have:=(back e h).ch [] stop_nil
 rwa [List.append_nil] at this
def Rs.map (g:List Tk→List Tk):Rs→Rs
 | .ok e r=>.ok e (g r)
 | .bad x k=>.bad x k
 | .out=>.out
end EtM
namespace ClM
open Go LexM
inductive Kd where
 | exprs | weights | items | strs | fields | blocks | classes
inductive Lf where
 | n (i:Int)
 | s (t:ByteArray)
 | b (v:Bool)
 | row (k:Kd) (l:List (List Lf))
inductive Sh where
 | n | s | b | r (k:Kd)
def shp:Kd→List Sh
 | .exprs=>[.n,.n,.s,.r .exprs]
 | .weights=>[.n,.n,.n,.b]
 | .items=>[.n,.n,.n,.s,.r .exprs,.s,.s,.r .weights,.r .items,.r .items,.r .strs,.r .strs]
 | .strs=>[.s]
 | .fields=>[.s,.n,.n,.n,.n]
 | .blocks=>[.s,.r .items]
 | .classes=>[.s,.s,.r .fields,.r .blocks]
def byt:Kd→Nat
 | .exprs=>56
 | .weights=>32
 | .items=>216
 | .strs=>16
 | .fields=>48
 | .blocks=>40
 | .classes=>80
structure Fld where
 nm:ByteArray
 wd:Int
 sz:Int
 md:Int
 ini:Int
structure Bk where
 nm:ByteArray
 it:List (List Lf)
structure Cl where
 nm:ByteArray
 par:ByteArray
 fs:List Fld
 bs:List Bk
def Fld.lf (f:Fld):List Lf:=[.s f.nm,.n f.wd,.n f.sz,.n f.md,.n f.ini]
def Bk.lf (b:Bk):List Lf:=[.s b.nm,.row .items b.it]
def Cl.lf (c:Cl):List Lf:=[.s c.nm,.s c.par,.row .fields (c.fs.map Fld.lf),.row .blocks (c.bs.map Bk.lf)]
def emp:ByteArray:=⟨#[]⟩
def zCl:Cl:=⟨emp,emp,[],[]⟩
def same (a b:ByteArray):Bool:=a.data.toList == b.data.toList
theorem same_iff {a b:ByteArray}:same a b=true↔a=b:=by
 unfold same;rw [beq_iff_eq];constructor
 ·intro h;obtain⟨⟨x⟩⟩:=a;obtain⟨⟨y⟩⟩:=b;simp at h;rw [h]
 ·rintro rfl;rfl
theorem same_rfl (a:ByteArray):same a a=true:=same_iff.2 rfl
def bad (a:ByteArray):Bool:=!nmB a.data.toList
def maxI (f:Fld):Int:=if f.md=0 then 2 ^ f.wd.toNat - 1 else 0
def okF (f:Fld):Bool:=decide (1≤f.wd∧f.wd≤8∧0≤f.sz∧f.sz≤8∧0≤f.md∧f.md≤2∧¬ (0<f.sz∧f.md=2)∧0≤f.ini∧f.ini≤maxI f)
def fieldE (f:Fld):Int:=if bad f.nm=true then 7 else if okF f=true then 0 else 1
def dupB:List ByteArray→Bool
 | []=>false
 | a::r=>r.any (same a)||dupB r
theorem any_same {l:List ByteArray} {a:ByteArray}:l.any (same a)=true↔a∈l:=by
 rw [List.any_eq_true];constructor
 ·rintro ⟨x,hx,h⟩;rw [same_iff.1 h];exact hx
 ·intro h;exact⟨a,h,same_rfl a⟩
theorem dupB_iff:∀ {l:List ByteArray},dupB l=false↔l.Nodup
 | []=>by simp [dupB]
 | a::r=>by
  rw [dupB,List.nodup_cons,Bool.or_eq_false_iff,dupB_iff,←Bool.not_eq_true,any_same]
theorem dupB_yes {l:List ByteArray} {k:Nat} {x:ByteArray} (h:l[k]? = some x) (hx:x∈l.take k):dupB l=true:=by
 cases hd:dupB l
 ·exfalso;have hn:=dupB_iff.1 hd;obtain⟨hk,he⟩:=List.getElem?_eq_some_iff.1 h;rw [←List.take_append_drop k l] at hn;have:=(List.nodup_append.1 hn).2.2 x hx x (by rw [List.drop_eq_getElem_cons hk,he];exact List.mem_cons_self ..);exact this rfl
 ·rfl
theorem dupB_step {l:List ByteArray} {k:Nat} {x:ByteArray} (h:l[k]? = some x) (hd:dupB (l.take k)=false) (hx:x ∉ l.take k):dupB (l.take (k+1))=false:=by
 obtain⟨hk,he⟩:=List.getElem?_eq_some_iff.1 h;rw [List.take_succ_eq_append_getElem hk,dupB_iff,List.nodup_append];refine⟨dupB_iff.1 hd,by simp,?_⟩;intro a ha b hb;rw [List.mem_singleton] at hb;rintro rfl;rw [hb,he] at ha;exact hx ha
def firstE (l:List Int):Int:=(l.find? (fun e=>e != 0)).getD 0
theorem firstE_zero {l:List Int}:firstE l=0↔∀ e∈l,e=0:=by
 unfold firstE;constructor
 ·intro h e he;cases hf:l.find? (fun e=>e != 0) with
  | none=>have:=List.find?_eq_none.1 hf e he;simpa using this
  | some x =>
   have h1:=List.find?_some hf;rw [hf] at h;simp at h h1;exact absurd h h1
 ·intro h;rw [List.find?_eq_none.2 (fun x hx=>by simpa using h x hx)];rfl
theorem firstE_at {l:List Int} {k:Nat} {e:Int} (h:l[k]? = some e) (he:e≠0) (hz:∀ x∈l.take k,x=0):firstE l=e:=by
 unfold firstE;obtain⟨hk,hx⟩:=List.getElem?_eq_some_iff.1 h;have:l.find? (fun e=>e != 0)=some e:=by
  rw [←List.take_append_drop k l,List.find?_append,List.find?_eq_none.2 (fun x hx=>by simpa using hz x hx),List.drop_eq_getElem_cons hk,hx];simp [he]
 rw [this];rfl
def large (c:Cl):Bool:=decide (16<c.fs.length)||decide (16<c.bs.length)
def validE (c:Cl):Int :=
 if (bad c.nm||(!same c.par emp&&bad c.par))=true then 7
 else if large c=true then 2
 else if firstE (c.fs.map fieldE)≠0 then firstE (c.fs.map fieldE)
 else if c.bs.any (fun b=>bad b.nm)=true then 7
 else if (dupB (c.fs.map Fld.nm)||dupB (c.bs.map Bk.nm))=true then 8
 else 0
def plc (bs:List Bk) (x:ByteArray):Option Nat:=bs.findIdx? (fun a=>same a.nm x)
def elm (f:Fld) (i:Nat):ByteArray:=⟨(f.nm.data.toList++91::UInt8.ofNat (48+i)::[93]).toArray⟩
end ClM
namespace ExM
open Go WordM LexM
abbrev Env:=List (ByteArray × Int)
def findS:Env→ByteArray→Option Int
 | [],_=>none
 |(a,v)::r,s=>if a.data.toList=s.data.toList then some (v % 65536) else findS r s
def fnd (env:Env) (s:ByteArray):Int:=(findS env s).getD 0
def hasN (env:Env) (s:ByteArray):Bool:=(findS env s).isSome
def elmN (a:ByteArray) (i:Nat):ByteArray:=⟨(a.data.toList++[91,UInt8.ofNat (48+i),93]).toArray⟩
def elS (env:Env) (a:ByteArray) (i:Int):Int:=if 0≤i∧i≤7 then fnd env (elmN a i.toNat) else 0
def sumK (env:Env) (a:ByteArray):Nat→Int
 | 0=>0
 | k+1=>(sumK env a k+elS env a k) % 65536
def ix (l:List Int) (i:Nat):Int:=l.getD i 0
def tr (b:Bool):Int:=if b then 1 else 0
def shlM (a n:Int):Int:=if 0≤n∧n≤15 then a*2 ^ n.toNat % 65536 else 0
def shrM (a n:Int):Int:=if 0≤n∧n≤15 then a % 65536 / 2 ^ n.toNat else 0
def onesM (a:Int):Int:=(sumN 16 (wordN a):Int)
def insB (n:Int):List Int→Bool
 | a::b::r=>(decide (a≤n)&&decide (n≤b))||insB n r
 | _=>false
def opS (o:Int) (l:List Int):Int :=
 if o=4 then tr (decide (ix l 0=0))
 else if o=5 then 65535 - ix l 0 % 65536
 else if o=6 then -ix l 0 % 65536
 else if o=25 then onesM (ix l 0)
 else if o=7 then (ix l 0+ix l 1) % 65536
 else if o=8 then (ix l 0 - ix l 1) % 65536
 else if o=9 then ix l 0*ix l 1 % 65536
 else if o=13 then shlM (ix l 0) (ix l 1)
 else if o=14 then shrM (ix l 0) (ix l 1)
 else if o=10 then (((ix l 0).toNat &&& (ix l 1).toNat:Nat):Int)
 else if o=11 then (((ix l 0).toNat ||| (ix l 1).toNat:Nat):Int)
 else if o=12 then (((ix l 0).toNat ^^^ (ix l 1).toNat:Nat):Int)
 else if o=15 then tr (decide (ix l 0=ix l 1))
 else if o=16 then tr (!decide (ix l 0=ix l 1))
 else if o=17 then tr (decide (ix l 0<ix l 1))
 else if o=18 then tr (decide (ix l 0≤ix l 1))
 else if o=19 then tr (!decide (ix l 0=0)&&!decide (ix l 1=0))
 else if o=20 then tr (!decide (ix l 0=0)||!decide (ix l 1=0))
 else if o=21 then tr (decide (ix l 0=0)||!decide (ix l 1=0))
 else if o=22 then (if ix l 0=0 then ix l 2 else ix l 1)
 else tr (insB (ix l 0) l.tail)
def valS (env:Env) (o n:Int) (s:ByteArray) (l:List Int):Int :=
 if o=1 then n else if o=2 then fnd env s else if o=3 then elS env s (ix l 0) else if o=24 then sumK env s 8 else opS o l
def knwS (env:Env) (o:Int) (s:ByteArray):Bool :=
 if o=2 then hasN env s else if o=3∨o=24 then hasN env (elmN s 0) else true
mutual
def ev (env:Env):Ex→Int
 | .mk o n s ks=>valS env o n s (evs env ks)
def evs (env:Env):List Ex→List Int
 | []=>[]
 | a::r=>ev env a::evs env r
def kn (env:Env):Ex→Bool
 | .mk o _ s ks=>kns env ks&&knwS env o s
def kns (env:Env):List Ex→Bool
 | []=>true
 | a::r=>kn env a&&kns env r
end
end ExM
namespace ItM
open Go WordM LexM ExM
open ClM (Fld firstE firstE_zero firstE_at)
structure Wt where
 lo:Int
 hi:Int
 wt:Int
 ea:Bool
inductive It where
 | mk (kd:Int) (e:Ex) (nm ix:ByteArray) (ws:List Wt) (it el:List It) (bf af:List ByteArray)
def It.kd:It→Int | .mk k _ _ _ _ _ _ _ _=>k
def It.e:It→Ex | .mk _ e _ _ _ _ _ _ _=>e
def It.nm:It→ByteArray | .mk _ _ s _ _ _ _ _ _=>s
def It.ix:It→ByteArray | .mk _ _ _ s _ _ _ _ _=>s
def It.ws:It→List Wt | .mk _ _ _ _ l _ _ _ _=>l
def It.it:It→List It | .mk _ _ _ _ _ l _ _ _=>l
def It.el:It→List It | .mk _ _ _ _ _ _ l _ _=>l
def It.bf:It→List ByteArray | .mk _ _ _ _ _ _ _ l _=>l
def It.af:It→List ByteArray | .mk _ _ _ _ _ _ _ _ l=>l
theorem It.eta:∀ x:It,x=.mk x.kd x.e x.nm x.ix x.ws x.it x.el x.bf x.af | .mk _ _ _ _ _ _ _ _ _=>rfl
theorem its_ind {P:List It→Prop} (h:∀ l,(∀ x∈l,P x.it∧P x.el)→P l) (l:List It):P l :=
 h l (It.rec_1 (motive_1:=fun x=>P x.it∧P x.el) (motive_2:=fun l=>∀ x∈l,P x.it∧P x.el)
  (fun _ _ _ _ _ it el _ _ hi he=>⟨h it hi,h el he⟩) (fun _ ha=>nomatch ha)
  (fun _ _ hb hr a ha=>(List.mem_cons.1 ha).elim (fun e=>e ▸ hb) (fun g=>hr a g)) l)
theorem its_rec {P:List It→Prop} (h0:P []) (h1:∀ x r,P x.it→P x.el→P r→P (x::r)) (l:List It):P l:=by
 induction l using its_ind with
 | h l ih =>
  induction l with
  | nil=>exact h0
  | cons x r ih2=>exact h1 x r (ih x (by simp)).1 (ih x (by simp)).2 (ih2 fun y hy=>ih y (by simp [hy]))
mutual
def isz:It→Nat
 | .mk _ _ _ _ _ it el _ _=>iszs it+iszs el+1
def iszs:List It→Nat
 | []=>0
 | a::r=>isz a+iszs r
end
theorem isz_eq (x:It):isz x=iszs x.it+iszs x.el+1:=by cases x;rw [isz];rfl
theorem iszs_nil:iszs []=0:=by rw [iszs]
theorem iszs_cons (a:It) (r:List It):iszs (a::r)=isz a+iszs r:=by rw [iszs]
theorem iszs_append (a b:List It):iszs (a++b)=iszs a+iszs b:=by
 induction a with
 | nil=>simp [iszs_nil]
 | cons x r ih=>rw [List.cons_append,iszs_cons,iszs_cons,ih];omega
theorem iszs_take {k:Nat} {l:List It} {a:It} (h:l[k]? = some a):iszs (l.take (k+1))=iszs (l.take k)+isz a:=by
 obtain⟨hk,he⟩:=List.getElem?_eq_some_iff.1 h;rw [List.take_succ_eq_append_getElem hk,iszs_append,he,iszs_cons,iszs_nil];omega
theorem iszs_take_le (k:Nat) (l:List It):iszs (l.take k)≤iszs l:=by
 have:=iszs_append (l.take k) (l.drop k);rw [List.take_append_drop] at this;omega
theorem isz_mem {l:List It} {a:It} (h:a∈l):isz a≤iszs l:=by
 induction l with
 | nil=>cases h
 | cons b r ih =>
  rw [iszs_cons];rcases List.mem_cons.1 h with rfl | h
  ·omega
  ·have:=ih h;omega
structure Pl where
 d:Nat
 B:List ByteArray
 x:It
def inn (kd:Int) (ix:ByteArray) (B:List ByteArray):List ByteArray:=if kd=5 then ix::B else B
mutual
def wk (d:Nat) (B:List ByteArray):It→List Pl
 | .mk kd e nm ix ws it el bf af=>⟨d,B,.mk kd e nm ix ws it el bf af⟩::(wks (d+1) (inn kd ix B) it++wks (d+1) B el)
def wks (d:Nat) (B:List ByteArray):List It→List Pl
 | []=>[]
 | a::r=>wk d B a++wks d B r
end
theorem wk_eq (d:Nat) (B:List ByteArray) (x:It):wk d B x=⟨d,B,x⟩::(wks (d+1) (inn x.kd x.ix B) x.it++wks (d+1) B x.el):=by cases x;rw [wk];rfl
theorem wks_nil (d:Nat) (B:List ByteArray):wks d B []=[]:=by rw [wks]
theorem wks_cons (d:Nat) (B:List ByteArray) (a:It) (r:List It):wks d B (a::r)=wk d B a++wks d B r:=by rw [wks]
theorem wks_append (d:Nat) (B:List ByteArray) (a b:List It):wks d B (a++b)=wks d B a++wks d B b:=by
 induction a with
 | nil=>simp [wks_nil]
 | cons x r ih=>rw [List.cons_append,wks_cons,wks_cons,ih,List.append_assoc]
theorem wks_take {d k:Nat} {B:List ByteArray} {l:List It} {a:It} (h:l[k]? = some a):wks d B (l.take (k+1))=wks d B (l.take k)++wk d B a:=by
 obtain⟨hk,he⟩:=List.getElem?_eq_some_iff.1 h;rw [List.take_succ_eq_append_getElem hk,wks_append,he,wks_cons,wks_nil,List.append_nil]
theorem wks_len (l:List It):∀ d B,(wks d B l).length=iszs l:=by
 induction l using its_rec with
 | h0=>intro d B;rw [wks_nil,iszs_nil];rfl
 | h1 x r h1 h2 h3=>intro d B;rw [wks_cons,wk_eq,iszs_cons,isz_eq,List.length_append,List.length_cons,List.length_append,h1,h2,h3]
def Nd1 (x:It):Prop:=sz x.e≤2000000∧x.ws.length≤2000000∧x.bf.length≤2000000∧x.af.length≤2000000
mutual
def RsI:It→Prop
 | .mk kd e nm ix ws it el bf af=>Nd1 (.mk kd e nm ix ws it el bf af)∧RsL it∧RsL el
def RsL:List It→Prop
 | []=>True
 | a::r=>RsI a∧RsL r
end
theorem rsI_eq (x:It):RsI x↔Nd1 x∧RsL x.it∧RsL x.el:=by cases x;rw [RsI];rfl
theorem rsL_nil:RsL []:=by rw [RsL];trivial
theorem rsL_cons (a:It) (r:List It):RsL (a::r)↔RsI a∧RsL r:=by rw [RsL]
theorem rsL_mem {l:List It}:RsL l↔∀ x∈l,RsI x:=by
 induction l with
 | nil=>simp [rsL_nil]
 | cons a r ih=>rw [rsL_cons,ih];simp
theorem rs_wks (l:List It):∀ d B,RsL l→∀ p∈wks d B l,Nd1 p.x:=by
 induction l using its_rec with
 | h0=>intro d B _ p hp;rw [wks_nil] at hp;cases hp
 | h1 x r h1 h2 h3 =>
  intro d B h p hp;rw [rsL_cons,rsI_eq] at h;rw [wks_cons,wk_eq] at hp;rcases List.mem_append.1 hp with hp | hp
  ·rcases List.mem_cons.1 hp with rfl | hp
   ·exact h.1.1
   ·rcases List.mem_append.1 hp with hp | hp
    ·exact h1 _ _ h.1.2.1 p hp
    ·exact h2 _ _ h.1.2.2 p hp
  ·exact h3 _ _ h.2 p hp
def zE:Ex:=.mk 0 0 ⟨#[]⟩ []
def isEmp (s:ByteArray):Bool:=decide (s.size=0)
def zB (e:Ex):Bool:=decide (e.op=0)&&(decide (e.n=0)&&(isEmp e.nm&&e.args.isEmpty))
def freeB (x:It):Bool :=
 if x.kd=1∨x.kd=2 then isEmp x.nm&&(isEmp x.ix&&(x.ws.isEmpty&&(x.it.isEmpty&&(x.el.isEmpty&&(x.bf.isEmpty&&x.af.isEmpty)))))
 else if x.kd=3 then zB x.e&&(isEmp x.ix&&(x.it.isEmpty&&(x.el.isEmpty&&(x.bf.isEmpty&&x.af.isEmpty))))
 else if x.kd=4 then isEmp x.nm&&(isEmp x.ix&&(x.ws.isEmpty&&(x.bf.isEmpty&&x.af.isEmpty)))
 else if x.kd=5 then zB x.e&&(x.ws.isEmpty&&(x.el.isEmpty&&(x.bf.isEmpty&&x.af.isEmpty)))
 else zB x.e&&(isEmp x.nm&&(isEmp x.ix&&(x.ws.isEmpty&&(x.it.isEmpty&&x.el.isEmpty))))
def outK (k:Int):Bool:=decide (k=3)||decide (k=6)
def kindB (k:Int):Bool:=decide (1≤k)&&decide (k≤6)
def wrongW (w:Wt):Bool:=decide (w.lo<0)||(decide (w.hi<w.lo)||(decide (65535<w.hi)||(decide (w.wt<0)||decide (1000<w.wt))))
def noVar (s:ByteArray):Bool:=!varB s.data.toList
def nameB (s:ByteArray):Bool:=nmB s.data.toList
def distE (x:It):Int:=if 16<x.ws.length then 2 else if x.ws.length=0∨x.ws.any wrongW=true then 1 else if noVar x.nm=true then 7 else 0
def solveE (x:It):Int:=if x.bf.length=0∨x.af.length=0 then 1 else if x.bf.any noVar=true∨x.af.any noVar=true then 7 else 0
def fltI (d:Nat) (x:It):Int :=
 if (!kindB x.kd||(!freeB x||(decide (4<d)||(decide (0<d)&&outK x.kd))))=true then 1
 else if x.kd=3 then distE x
 else if x.kd=6 then solveE x
 else if x.kd=5 then (if nameB x.nm=true∧nameB x.ix=true then 0 else 7)
 else vld x.e
def fltP (p:Pl):Int:=fltI p.d p.x
def firstV (l:List It):Int:=firstE ((wks 0 [] l).map fltP)
def validI (l:List It):Int:=if 64<iszs l then 2 else firstV l
theorem firstE_nil:firstE []=0:=rfl
theorem firstE_cons (a:Int) (l:List Int):firstE (a::l)=if a=0 then firstE l else a:=by
 unfold firstE;rw [List.find?_cons];by_cases h:a=0
 ·subst h;simp
 ·have h2:(a != 0)=true:=(by simpa using h);rw [h2,if_neg h];rfl
theorem firstE_append (a b:List Int):firstE (a++b)=if firstE a=0 then firstE b else firstE a:=by
 induction a with
 | nil=>simp [firstE_nil]
 | cons x r ih =>
  rw [List.cons_append,firstE_cons,firstE_cons,ih];by_cases h:x=0
  ·simp [h]
  ·simp [h]
theorem firstE_snoc (a:List Int) (x:Int):firstE (a++[x])=if firstE a=0 then x else firstE a:=by
 rw [firstE_append,firstE_cons,firstE_nil];by_cases h:x=0<;>simp [h]
def memB (B:List ByteArray) (s:ByteArray):Bool:=B.any (fun t=>ClM.same t s)
def hdE (l:List Ex):Ex:=l.headD zE
end ItM
namespace ItM
open Go WordM LexM ExM
open ClM (Fld)
theorem zB_eq {e:Ex} (h:zB e=true):e=zE:=by
 unfold zB at h;simp only [Bool.and_eq_true,decide_eq_true_eq,List.isEmpty_iff] at h;obtain⟨h1,h2,h3,h4⟩:=h;cases e with
 | mk o n s ks =>
  have e3:s=⟨#[]⟩:=by
   have:s.size=0:=(by unfold isEmp at h3;simpa [Ex.nm] using h3);exact ByteArray.ext (Array.eq_empty_of_size_eq_zero this)
  have e1:o=0:=h1;have e2:n=0:=h2;have e4:ks=[]:=h4;rw [e1,e2,e3,e4];rfl
theorem isEmp_eq {s:ByteArray} (h:isEmp s=true):s=⟨#[]⟩:=by
 have:s.size=0:=(by unfold isEmp at h;simpa using h);exact ByteArray.ext (Array.eq_empty_of_size_eq_zero this)
end ItM
namespace CtM
open Go NumM LexM ExM EtM ItM
def bl (k:Nat):List UInt8:=List.replicate (4*k) 32
def softW:List UInt8:=[115,111,102,116]
def distW:List UInt8:=[100,105,115,116]
def ifW:List UInt8:=[105,102]
def eachW:List UInt8:=[101,97,99,104]
def solveW:List UInt8:=[115,111,108,118,101]
def inW:List UInt8:=[105,110]
def beforeW:List UInt8:=[98,101,102,111,114,101]
def elsL:List UInt8:=[125,32,101,108,115,101,32,123]
def joinT:List (List UInt8)→List UInt8
 | []=>[]
 | [a]=>a
 | a::b::r=>a++44::32::joinT (b::r)
def wtT (w:Wt):List UInt8:=Lib.itoa w.lo++((if w.hi≠w.lo then 32::46::46::32::Lib.itoa w.hi else [])++(32::58::(if w.ea then 61 else 47)::32::Lib.itoa w.wt))
def wtsT (l:List Wt):List UInt8:=joinT (l.map wtT)
def nmT (s:ByteArray):List UInt8:=s.data.toList
def hdL (x:It):List UInt8 :=
 if x.kd=1 then prn x.e++[59]
 else if x.kd=2 then softW++32::(prn x.e++[59])
 else if x.kd=3 then distW++32::(nmT x.nm++32::123::32::(wtsT x.ws++32::125::59::[]))
 else if x.kd=4 then ifW++32::40::(prn x.e++[41,32,123])
 else if x.kd=5 then eachW++32::(nmT x.ix++32::(inW++32::(nmT x.nm++32::123::[])))
 else solveW++32::(joinT (x.bf.map nmT)++32::(beforeW++32::(joinT (x.af.map nmT)++59::[])))
mutual
/-- The lines of a constraint,without their line feeds. -/
def liI (k:Nat):It→List (List UInt8)
 | .mk kd e nm ix ws it el bf af=>(bl k++hdL (.mk kd e nm ix ws it el bf af)) ::
   (if kd=4 then liL (k+1) it++((if el.isEmpty=true then [] else (bl k++elsL)::liL (k+1) el)++[bl k++[125]])
    else if kd=5 then liL (k+1) it++[bl k++[125]] else [])
def liL (k:Nat):List It→List (List UInt8)
 | []=>[]
 | a::r=>liI k a++liL k r
end
theorem liI_eq (k:Nat) (x:It):liI k x=(bl k++hdL x) ::
   (if x.kd=4 then liL (k+1) x.it++((if x.el.isEmpty=true then [] else (bl k++elsL)::liL (k+1) x.el)++[bl k++[125]])
    else if x.kd=5 then liL (k+1) x.it++[bl k++[125]] else []):=by cases x;rw [liI];rfl
theorem liL_nil (k:Nat):liL k []=[]:=by rw [liL]
theorem liL_cons (k:Nat) (a:It) (r:List It):liL k (a::r)=liI k a++liL k r:=by rw [liL]
theorem liL_app (k:Nat) (a b:List It):liL k (a++b)=liL k a++liL k b:=by
 induction a with
 | nil=>rw [liL_nil];rfl
 | cons x r ih=>rw [List.cons_append,liL_cons,liL_cons,ih,List.append_assoc]
def txL (l:List (List UInt8)):List UInt8:=(l.map (·++[10])).flatten
theorem txL_nil:txL []=[]:=rfl
theorem txL_cons (a:List UInt8) (r:List (List UInt8)):txL (a::r)=a++10::txL r:=by simp [txL]
theorem txL_app (a b:List (List UInt8)):txL (a++b)=txL a++txL b:=by simp [txL]
theorem tw {p:UInt8→Bool}:∀ {w:List UInt8} (c:UInt8) (r:List UInt8),w.all p=true→p c=false→(w++c::r).takeWhile p=w
 | [],c,r,_,hc=>by rw [List.nil_append,List.takeWhile_cons,hc];rfl
 | a::q,c,r,h,hc=>by
  rw [List.all_cons,Bool.and_eq_true] at h;rw [List.cons_append,List.takeWhile_cons,h.1,if_pos rfl,tw c r h.2 hc]
theorem cut {p:UInt8→Bool} {w w':List UInt8} {c c':UInt8} {r r':List UInt8} (h:w.all p=true) (h':w'.all p=true) (hc:p c=false) (hc':p c'=false) (e:w++c::r=w'++c'::r'):w=w'∧c=c'∧r=r':=by
 have h1:=tw c r h hc;have h2:=tw c' r' h' hc';rw [e,h2] at h1;subst h1;have h3:=List.append_cancel_left e;cases h3;exact⟨rfl,rfl,rfl⟩
def Nbl (s:List UInt8):Prop:=∃ c r,s=c::r∧c≠32
theorem rep_inj:∀ {m n:Nat} {s t:List UInt8},Nbl s→Nbl t→List.replicate m (32:UInt8)++s=List.replicate n 32++t→m=n∧s=t
 | 0,0,s,t,_,_,e=>⟨rfl,e⟩
 | 0,n+1,s,t,⟨c,r,hs,hc⟩,_,e=>by
  rw [hs,List.replicate_succ] at e;injection e with e1 _
  exact absurd e1 hc
 | m+1,0,s,t,_,⟨c,r,ht,hc⟩,e=>by
  rw [ht,List.replicate_succ] at e;injection e with e1 _
  exact absurd e1.symm hc
 | m+1,n+1,s,t,hs,ht,e=>by
  rw [List.replicate_succ,List.replicate_succ] at e;injection e with _ e
  obtain⟨h1,h2⟩:=rep_inj hs ht e;exact⟨by rw [h1],h2⟩
theorem bl_inj {j k:Nat} {s t:List UInt8} (hs:Nbl s) (ht:Nbl t) (e:bl j++s=bl k++t):j=k∧s=t:=by
 obtain⟨h1,h2⟩:=rep_inj hs ht e;exact⟨by omega,h2⟩
theorem prn_lex {e:Ex} (h:Ok e):lex (prn e) 1 []=lex [] 1 (T e):=by
 have:=lexP (bare e) none [] [] rfl ((bare_op e h).adj _ (.inl rfl));rw [List.append_nil,List.nil_append] at this;exact this
theorem lex_end (l:List Tk):(lex [] 1 l).1=l:=rfl
theorem prn_inj {e f:Ex} (he:Ok e) (hf:Ok f) (h:prn e=prn f):e=f:=by
 have h1:=prn_lex he;rw [h,prn_lex hf] at h1;have h2:=congrArg Prod.fst h1;rw [lex_end,lex_end] at h2;have h3:=parse_prn he;rw [←h2,parse_prn hf] at h3;cases h3;rfl
theorem ok_vld {e:Ex} (h:vld e=0):Ok e:=((vld_zero e).1 h).1
def pb (c:UInt8):Bool:=decide (32≤c.toNat)&&decide (c.toNat≤126)
def hpc:Pc→Prop
 | .sp=>False
 | .wd _ _ x=>isKw x=false
 | .mk x=>isMk x=true
def HP (l:List Pc):Prop:=∃ p q,l=p::q∧hpc p
theorem HP.app {a:List Pc} (h:HP a) (b:List Pc):HP (a++b):=by
 obtain⟨p,q,rfl,hp⟩:=h;exact⟨p,q++b,rfl,hp⟩
theorem HP.plc {x:Int × List Pc} (h:HP x.2) (p:Int):HP (plc p x):=by
 unfold EtM.plc;split
 ·exact⟨_,_,rfl,rfl⟩
 ·exact h
theorem nm_kw {x:List UInt8} (h:nmB x=true):isKw x=false:=by
 cases x with
 | nil=>rfl
 | cons c r =>
  simp only [nmB,Bool.and_eq_true,Bool.not_eq_true'] at h;exact h.2.2.1
theorem kw_first {x:List UInt8} (h:isKw x=true):∃ c r,x=c::r∧sml c=true:=by
 unfold isKw at h;obtain⟨h1,_,h3⟩:=kw_facts x (of_decide_eq_true h);cases x with
 | nil=>exact absurd rfl h1
 | cons c r=>rw [List.all_cons,Bool.and_eq_true] at h3;exact⟨c,r,rfl,h3.1⟩
theorem dig_kw {x:List UInt8} {n:Int} {t:List UInt8} (h:firstS x=(⟨3,n,t,0⟩,0)):isKw x=false:=by
 cases hk:isKw x with
 | false=>rfl
 | true =>
  have hm:x∈kws:=of_decide_eq_true (by unfold isKw at hk;exact hk);have:∀ y∈kws,(firstS y).1.kind=2:=(by decide);have h2:=this x hm;rw [h] at h2;cases h2
theorem hp_form {o n:Int} {s:ByteArray} {ks:List Ex} (h:Sh o n s ks) (hk:∀ a∈ks,HP (bare a)):HP (form o n s.data.toList (ks.map bx)):=by
 cases h with
 | con n h0 h1=>exact⟨_,_,rfl,dig_kw (itoa_parts h0 h1).2.2⟩
 | var s h =>
  show HP (varP s.data.toList);unfold varP;split
  ·rename_i he;obtain⟨r,d,e1,e2,_⟩:=elm_parts he;refine⟨_,_,rfl,?_⟩;have:s.data.toList.take (s.data.toList.length - 3)=r:=(by rw [e1];simp);show isKw _=false;rw [this];exact nm_kw e2
  ·rename_i he;unfold varB at h;rw [Bool.eq_false_iff.2 he,Bool.false_or] at h;exact⟨_,_,rfl,nm_kw h⟩
 | sum s h=>exact⟨_,_,rfl,(show isKw sumW=false by decide)⟩
 | elm s a h=>exact⟨_,_,rfl,nm_kw h⟩
 | ons a=>exact⟨_,_,rfl,(show isKw onesW=false by decide)⟩
 | pre o a h =>
  have:form o 0 [] [bx a]=.mk (pMark o)::plc 13 (bx a):=(by rcases h with rfl | rfl | rfl<;>rfl);show HP (form o 0 [] [bx a]);rw [this];refine⟨_,_,rfl,?_⟩;rcases h with rfl | rfl | rfl<;>rfl
 | bin o a b h h' =>
  have:form o 0 [] [bx a,bx b]=two o (bx a) (bx b):=by
   unfold form;rw [if_neg (by omega),if_neg (by omega),if_neg (by omega),if_neg (by omega),if_neg (by omega)]
  show HP (form o 0 [] [bx a,bx b]);rw [this];unfold two;exact (HP.plc (hk a (by simp)) _).app _
 | iff a b c=>exact (HP.plc (x:=bx a) (hk a (by simp)) 2).app _
 | ins a r h1 h2 h3=>exact (HP.plc (x:=bx a) (hk a (by simp)) 9).app _
theorem hp_bare (e:Ex):Ok e→HP (bare e):=by
 induction e using Ex.ind with
 | h o n s ks ih =>
  intro h;obtain⟨h1,h2⟩:=(ok_mk o n s ks).1 h;rw [bare_mk];exact hp_form (EtM.shape h1) (fun a ha=>ih a ha (h2 a ha))
def fw (l:List UInt8):List UInt8:=l.takeWhile wrd
theorem fw_prn {e:Ex} (h:Ok e) (r:List UInt8):isKw (fw (prn e++59::r))=false:=by
 obtain⟨p,q,e1,hp⟩:=hp_bare e h;have ha:=(bare_op e h).adj none (.inl rfl);unfold prn;rw [e1] at ha ⊢;rw [txP_cons,List.append_assoc];cases p with
 | sp=>exact hp.elim
 | mk x =>
  have:fw (x++(txP q++59::r))=[]:=mk_word hp _;show isKw (fw (x++(txP q++59::r)))=false;rw [this];rfl
 | wd k n x =>
  obtain⟨h1,h2,h3,h4⟩:=ha.1;show isKw (fw (x++(txP q++59::r)))=false;have:fw (x++(txP q++59::r))=x:=by
   unfold fw;cases hq:txP q with
   | nil=>exact tw 59 r h2 rfl
   | cons c t=>exact tw c (t++59::r) h2 (h4 c (by unfold nb1;rw [hq]))
  rw [this];exact hp
theorem prn_nbl {e:Ex} (h:Ok e) (r:List UInt8):∃ c q,prn e++r=c::q∧c≠32∧c≠125:=by
 obtain⟨c,q,e1,hc⟩:=(bare_op e h).hd;refine⟨c,q++r,by unfold prn;rw [e1];rfl,?_,?_⟩
 ·rintro rfl;rcases hc with h | h | h | h | h
  ·exact absurd h (by decide)
  all_goals cases h
 ·rintro rfl;rcases hc with h | h | h | h | h
  ·exact absurd h (by decide)
  all_goals cases h
theorem itoa_all {n:Int} (h:0≤n):(Lib.itoa n).all dgt=true:=by
 have e:Lib.itoa n=Lib.decDigits n.toNat:=by
  unfold Lib.itoa;rw [if_neg (by omega)]
 rw [e];exact (dec_spec n.toNat).1
theorem itoa_inj {m n:Int} (h:Lib.itoa m=Lib.itoa n):m=n:=by rw [←(itoa_dec m).2,h,(itoa_dec n).2]
def okW (w:Wt):Prop:=0≤w.lo∧0≤w.hi∧0≤w.wt
theorem okW_of {w:Wt} (h:wrongW w=false):okW w:=by
 unfold wrongW at h;simp only [Bool.or_eq_false_iff,decide_eq_false_iff_not,Int.not_lt] at h;exact⟨h.1,by omega,h.2.2.2.1⟩
theorem wt_inj {w v:Wt} {c d:UInt8} {r s:List UInt8} (hw:okW w) (hv:okW v) (hc:dgt c=false) (hd:dgt d=false) (e:wtT w++c::r=wtT v++d::s):w=v∧c=d∧r=s:=by
 obtain⟨a,b,t,f⟩:=w;obtain⟨a',b',t',f'⟩:=v;obtain⟨h1,h2,h3⟩:=hw;obtain⟨g1,g2,g3⟩:=hv;unfold wtT at e;simp only at e h1 h2 h3 g1 g2 g3;have D:=(fun {n:Int} (h:0≤n)=>itoa_all h);have hq:(32:UInt8)=32:=rfl;by_cases k:b≠a
 ·rw [if_pos k] at e;by_cases k':b'≠a'
  ·rw [if_pos k'] at e;simp only [List.append_assoc,List.cons_append] at e;obtain⟨e1,_,e⟩:=cut (D h1) (D g1) rfl rfl e;injection e with _ e
   injection e with _ e
   injection e with _ e
   obtain⟨e2,_,e⟩:=cut (D h2) (D g2) rfl rfl e;injection e with _ e
   injection e with e4 e
   injection e with _ e
   obtain⟨e3,e5,e6⟩:=cut (D h3) (D g3) hc hd e;have hf:f=f':=(by cases f<;>cases f'<;>first | rfl | (simp at e4));rw [itoa_inj e1,itoa_inj e2,itoa_inj e3,hf];exact⟨rfl,e5,e6⟩
  ·rw [if_neg k'] at e;simp only [List.append_assoc,List.cons_append,List.nil_append] at e;obtain⟨_,_,e⟩:=cut (D h1) (D g1) rfl rfl e;injection e with e _
   exact absurd e (by decide)
 ·rw [if_neg k] at e;by_cases k':b'≠a'
  ·rw [if_pos k'] at e;simp only [List.append_assoc,List.cons_append,List.nil_append] at e;obtain⟨_,_,e⟩:=cut (D h1) (D g1) rfl rfl e;injection e with e _
   exact absurd e (by decide)
  ·rw [if_neg k'] at e;simp only [List.append_assoc,List.cons_append,List.nil_append] at e;obtain⟨e1,_,e⟩:=cut (D h1) (D g1) rfl rfl e;injection e with _ e
   injection e with e4 e
   injection e with _ e
   obtain⟨e3,e5,e6⟩:=cut (D h3) (D g3) hc hd e;have hf:f=f':=(by cases f<;>cases f'<;>first | rfl | (simp at e4));have e7:=itoa_inj e1;rw [show b=a by omega,show b'=a' by omega,e7,itoa_inj e3,hf];exact⟨rfl,e5,e6⟩
theorem joinT_two (a b:List UInt8) (r:List (List UInt8)):joinT (a::b::r)=a++44::32::joinT (b::r):=by rw [joinT]
theorem joinT_one (a:List UInt8):joinT [a]=a:=by rw [joinT]
theorem wts_inj:∀ {l m:List Wt} {c:UInt8} {r s:List UInt8},(∀ w∈l,okW w)→(∀ w∈m,okW w)→l≠[]→m≠[]→dgt c=false→c≠44→wtsT l++c::r=wtsT m++c::s→l=m∧r=s
 | [],_,_,_,_,_,_,h,_,_,_,_=>absurd rfl h
 | _::_,[],_,_,_,_,_,_,h,_,_,_=>absurd rfl h
 | [a],[b],c,r,s,hl,hm,_,_,hc,_,e=>by
  unfold wtsT at e;simp only [List.map_cons,List.map_nil,joinT_one] at e;obtain⟨h1,_,h2⟩:=wt_inj (hl a (by simp)) (hm b (by simp)) hc hc e;exact⟨by rw [h1],h2⟩
 | [a],b::b2::q,c,r,s,hl,hm,_,_,hc,h44,e=>by
  unfold wtsT at e;simp only [List.map_cons,List.map_nil,joinT_one,joinT_two,List.append_assoc,List.cons_append] at e;obtain⟨_,h2,_⟩:=wt_inj (hl a (by simp)) (hm b (by simp)) hc rfl e;exact absurd h2 h44
 | a::a2::p,[b],c,r,s,hl,hm,_,_,hc,h44,e=>by
  unfold wtsT at e;simp only [List.map_cons,List.map_nil,joinT_one,joinT_two,List.append_assoc,List.cons_append] at e;obtain⟨_,h2,_⟩:=wt_inj (hl a (by simp)) (hm b (by simp)) rfl hc e;exact absurd h2.symm h44
 | a::a2::p,b::b2::q,c,r,s,hl,hm,_,_,hc,h44,e=>by
  have e0:=e;unfold wtsT at e;simp only [List.map_cons,joinT_two,List.append_assoc,List.cons_append] at e;obtain⟨h1,_,h2⟩:=wt_inj (hl a (by simp)) (hm b (by simp)) rfl rfl e;injection h2 with _ h2
  obtain⟨h3,h4⟩:=wts_inj (l:=a2::p) (m:=b2::q) (fun w hw=>hl w (List.mem_cons_of_mem _ hw)) (fun w hw=>hm w (List.mem_cons_of_mem _ hw)) (by simp) (by simp) hc h44 (by unfold wtsT;exact h2);exact⟨by rw [h1,h3],h4⟩
def nb (c:UInt8):Bool:=wrd c||decide (c=91)||decide (c=93)
theorem nm_nb {s:ByteArray} (h:nmB (nmT s)=true):(nmT s).all nb=true:=List.all_eq_true.2 fun c hc=>by
 have:=List.all_eq_true.1 (nm_parts h).2.1 c hc;unfold nb;rw [this];rfl
theorem var_nb {s:ByteArray} (h:varB (nmT s)=true):(nmT s).all nb=true:=by
 unfold varB at h;rw [Bool.or_eq_true] at h;rcases h with h | h
 ·obtain⟨r,d,e1,e2,e3,e4⟩:=elm_parts h;rw [e1,List.all_append];have h1:r.all nb=true:=List.all_eq_true.2 fun c hc=>by
   have:=List.all_eq_true.1 (nm_parts e2).2.1 c hc;unfold nb;rw [this];rfl
  have h2:nb d=true:=by
   unfold nb;have:dgt d=true:=(by unfold dgt;simp only [Bool.and_eq_true,decide_eq_true_eq];omega);rw [wrd_dgt this];rfl
  rw [h1,Bool.true_and];simp only [List.all_cons,List.all_nil,Bool.and_true];rw [h2];rfl
 ·exact nm_nb h
theorem ba_inj {s t:ByteArray} (h:nmT s=nmT t):s=t:=ByteArray.ext (Array.toList_inj.1 h)
theorem join_inj:∀ {l m:List ByteArray} {c:UInt8} {r s:List UInt8},(∀ x∈l,(nmT x).all nb=true)→(∀ x∈m,(nmT x).all nb=true)→l≠[]→m≠[]→nb c=false→c≠44→joinT (l.map nmT)++c::r=joinT (m.map nmT)++c::s→l=m∧r=s
 | [],_,_,_,_,_,_,h,_,_,_,_=>absurd rfl h
 | _::_,[],_,_,_,_,_,_,h,_,_,_=>absurd rfl h
 | [a],[b],c,r,s,hl,hm,_,_,hc,_,e=>by
  simp only [List.map_cons,List.map_nil,joinT_one] at e;obtain⟨h1,_,h2⟩:=cut (hl a (by simp)) (hm b (by simp)) hc hc e;exact⟨by rw [ba_inj h1],h2⟩
 | [a],b::b2::q,c,r,s,hl,hm,_,_,hc,h44,e=>by
  simp only [List.map_cons,List.map_nil,joinT_one,joinT_two,List.append_assoc,List.cons_append] at e;obtain⟨_,h2,_⟩:=cut (hl a (by simp)) (hm b (by simp)) hc rfl e;exact absurd h2 h44
 | a::a2::p,[b],c,r,s,hl,hm,_,_,hc,h44,e=>by
  simp only [List.map_cons,List.map_nil,joinT_one,joinT_two,List.append_assoc,List.cons_append] at e;obtain⟨_,h2,_⟩:=cut (hl a (by simp)) (hm b (by simp)) rfl hc e;exact absurd h2.symm h44
 | a::a2::p,b::b2::q,c,r,s,hl,hm,_,_,hc,h44,e=>by
  simp only [List.map_cons,joinT_two,List.append_assoc,List.cons_append] at e;obtain⟨h1,_,h2⟩:=cut (hl a (by simp)) (hm b (by simp)) rfl rfl e;injection h2 with _ h2
  obtain⟨h3,h4⟩:=join_inj (l:=a2::p) (m:=b2::q) (fun w hw=>hl w (List.mem_cons_of_mem _ hw)) (fun w hw=>hm w (List.mem_cons_of_mem _ hw)) (by simp) (by simp) hc h44 h2;exact⟨by rw [ba_inj h1,h3],h4⟩
mutual
def VI:It→Prop
 | .mk kd e nm ix ws it el bf af=>(∃ d,fltI d (.mk kd e nm ix ws it el bf af)=0)∧VL it∧VL el
def VL:List It→Prop
 | []=>True
 | a::r=>VI a∧VL r
end
theorem vI_eq (x:It):VI x↔(∃ d,fltI d x=0)∧VL x.it∧VL x.el:=by cases x;rw [VI];rfl
theorem vL_nil:VL []:=by rw [VL];trivial
theorem vL_cons (a:It) (r:List It):VL (a::r)↔VI a∧VL r:=by rw [VL]
theorem vL_of (l:List It):∀ (d:Nat) (B:List ByteArray),(∀ p∈wks d B l,fltP p=0)→VL l:=by
 induction l using its_rec with
 | h0=>intro d B _;exact vL_nil
 | h1 x r h1 h2 h3 =>
  intro d B hp;rw [wks_cons,wk_eq] at hp;rw [vL_cons,vI_eq];exact⟨⟨⟨d,hp _ (List.mem_append_left _ List.mem_cons_self)⟩,h1 _ _ fun p h=>hp p (List.mem_append_left _ (List.mem_cons_of_mem _ (List.mem_append_left _ h))),h2 _ _ fun p h=>hp p (List.mem_append_left _ (List.mem_cons_of_mem _ (List.mem_append_right _ h)))⟩,h3 _ _ fun p h=>hp p (List.mem_append_right _ h)⟩
abbrev e0:ByteArray:=⟨#[]⟩
inductive Fm:It→Prop where
 | hard (e:Ex) (h:Ok e):Fm (.mk 1 e e0 e0 [] [] [] [] [])
 | soft (e:Ex) (h:Ok e):Fm (.mk 2 e e0 e0 [] [] [] [] [])
 | dist (nm:ByteArray) (ws:List Wt) (h1:varB (nmT nm)=true) (h2:ws≠[]) (h3:∀ w∈ws,wrongW w=false):Fm (.mk 3 zE nm e0 ws [] [] [] [])
 | cond (e:Ex) (it el:List It) (h:Ok e):Fm (.mk 4 e e0 e0 [] it el [] [])
 | each (nm ix:ByteArray) (it:List It) (h1:nmB (nmT nm)=true) (h2:nmB (nmT ix)=true):Fm (.mk 5 zE nm ix [] it [] [] [])
 | solve (bf af:List ByteArray) (h1:bf≠[]) (h2:af≠[]) (h3:∀ s∈bf,varB (nmT s)=true) (h4:∀ s∈af,varB (nmT s)=true):Fm (.mk 6 zE e0 e0 [] [] [] bf af)
theorem fm_of {d:Nat} {x:It} (h:fltI d x=0):Fm x:=by
 unfold fltI at h;split at h
 ·cases h
 ·rename_i hc;rw [Bool.or_eq_true,Bool.or_eq_true,not_or,not_or] at hc;obtain⟨hk,hf,_⟩:=hc;simp only [Bool.not_eq_true',Bool.not_eq_false] at hk hf;unfold kindB at hk;simp only [Bool.and_eq_true,decide_eq_true_eq] at hk;unfold freeB at hf;by_cases k1:x.kd=1
  ·rw [if_pos (.inl k1)] at hf;rw [if_neg (by omega),if_neg (by omega),if_neg (by omega)] at h;simp only [Bool.and_eq_true,List.isEmpty_iff] at hf;obtain⟨a,b,c,p,q,f,g⟩:=hf;rw [It.eta x,k1,isEmp_eq a,isEmp_eq b,c,p,q,f,g];exact .hard x.e (ok_vld h)
  by_cases k2:x.kd=2
  ·rw [if_pos (.inr k2)] at hf;rw [if_neg (by omega),if_neg (by omega),if_neg (by omega)] at h;simp only [Bool.and_eq_true,List.isEmpty_iff] at hf;obtain⟨a,b,c,p,q,f,g⟩:=hf;rw [It.eta x,k2,isEmp_eq a,isEmp_eq b,c,p,q,f,g];exact .soft x.e (ok_vld h)
  rw [if_neg (by omega)] at hf;by_cases k3:x.kd=3
  ·rw [if_pos k3] at hf h;simp only [Bool.and_eq_true,List.isEmpty_iff] at hf;obtain⟨a,b,c,p,q,f⟩:=hf;unfold distE at h;split at h
   ·cases h
   ·split at h
    ·cases h
    ·rename_i h2;split at h
     ·cases h
     ·rename_i h3;rw [It.eta x,k3,zB_eq a,isEmp_eq b,c,p,q,f];refine .dist x.nm x.ws ?_ (fun e=>h2 (.inl (by show x.ws.length=0;rw [e];rfl))) fun w hw=>?_
      ·unfold noVar at h3;show varB x.nm.data.toList=true
       simpa using h3
      ·cases hw2:wrongW w with
       | false=>rfl
       | true=>exact absurd (.inr (List.any_eq_true.2 ⟨w,hw,hw2⟩)) h2
  rw [if_neg k3] at hf h;by_cases k4:x.kd=4
  ·rw [if_pos k4] at hf;rw [if_neg (by omega),if_neg (by omega)] at h;simp only [Bool.and_eq_true,List.isEmpty_iff] at hf;obtain⟨a,b,c,p,q⟩:=hf;rw [It.eta x,k4,isEmp_eq a,isEmp_eq b,c,p,q];exact .cond x.e x.it x.el (ok_vld h)
  rw [if_neg k4] at hf;by_cases k5:x.kd=5
  ·rw [if_pos k5] at hf;rw [if_neg (by omega),if_pos k5] at h;simp only [Bool.and_eq_true,List.isEmpty_iff] at hf;obtain⟨a,b,c,p,q⟩:=hf;split at h
   ·rename_i hn;rw [It.eta x,k5,zB_eq a,b,c,p,q];exact .each x.nm x.ix x.it hn.1 hn.2
   ·cases h
  rw [if_neg k5] at hf;have k6:x.kd=6:=(by omega);rw [if_pos k6] at h;simp only [Bool.and_eq_true,List.isEmpty_iff] at hf;obtain⟨a,b,c,p,q,f⟩:=hf;unfold solveE at h;split at h
  ·cases h
  ·rename_i h2;split at h
   ·cases h
   ·rename_i h3;rw [It.eta x,k6,zB_eq a,isEmp_eq b,isEmp_eq c,p,q,f];have hv:∀ l:List ByteArray,¬ l.any noVar=true→∀ s∈l,varB (nmT s)=true:=fun l hl s hs=>by
     cases hv:varB (nmT s) with
     | true=>rfl
     | false=>exact absurd (List.any_eq_true.2 ⟨s,hs,by unfold noVar;show (!varB (nmT s))=true;rw [hv];rfl⟩) hl
    exact .solve x.bf x.af (fun e=>h2 (.inl (by show x.bf.length=0;rw [e];rfl))) (fun e=>h2 (.inr (by show x.af.length=0;rw [e];rfl))) (hv x.bf fun g=>h3 (.inl g)) (hv x.af fun g=>h3 (.inr g))
def kc (w:List UInt8):Int:=if w=softW then 2 else if w=distW then 3 else if w=ifW then 4 else if w=eachW then 5 else if w=solveW then 6 else 1
theorem kc_kw {w:List UInt8} (h:isKw w=false):kc w=1:=by
 have n:∀ v,isKw v=true→w≠v:=(fun v hv e=>by rw [e,hv] at h;cases h);unfold kc;rw [if_neg (n _ (by decide)),if_neg (n _ (by decide)),if_neg (n _ (by decide)),if_neg (n _ (by decide)),if_neg (n _ (by decide))]
theorem kc_hd {x:It} (h:Fm x):kc (fw (hdL x))=x.kd:=by
 cases h with
 | hard e h=>exact kc_kw (fw_prn h [])
 | soft e h=>exact congrArg kc (tw (p:=wrd) (w:=softW) 32 _ (by decide) (by decide))
 | dist nm ws h1 h2 h3=>exact congrArg kc (tw (p:=wrd) (w:=distW) 32 _ (by decide) (by decide))
 | cond e it el h=>exact congrArg kc (tw (p:=wrd) (w:=ifW) 32 _ (by decide) (by decide))
 | each nm ix it h1 h2=>exact congrArg kc (tw (p:=wrd) (w:=eachW) 32 _ (by decide) (by decide))
 | solve bf af h1 h2 h3 h4=>exact congrArg kc (tw (p:=wrd) (w:=solveW) 32 _ (by decide) (by decide))
theorem hd_nbl {x:It} (h:Fm x):∃ c r,hdL x=c::r∧c≠32∧c≠125:=by
 cases h with
 | hard e h=>exact prn_nbl h [59]
 | soft e h=>exact⟨115,_,rfl,by decide,by decide⟩
 | dist nm ws h1 h2 h3=>exact⟨100,_,rfl,by decide,by decide⟩
 | cond e it el h=>exact⟨105,_,rfl,by decide,by decide⟩
 | each nm ix it h1 h2=>exact⟨101,_,rfl,by decide,by decide⟩
 | solve bf af h1 h2 h3 h4=>exact⟨115,_,rfl,by decide,by decide⟩
theorem hd_inj {x y:It} (hx:Fm x) (hy:Fm y) (e:hdL x=hdL y):y=.mk x.kd x.e x.nm x.ix x.ws y.it y.el x.bf x.af∧(x.kd≠4→x.kd≠5→x=y)∧(x.kd=5→x.el=y.el):=by
 have hk:x.kd=y.kd:=(by rw [←kc_hd hx,e,kc_hd hy]);cases hx with
 | hard a h =>
  cases hy with
  | hard b g =>
   have:=prn_inj h g (List.append_cancel_right e);subst this;exact⟨rfl,fun _ _=>rfl,fun _=>rfl⟩
  | _=>cases hk
 | soft a h =>
  cases hy with
  | soft b g =>
   have e1:=List.append_cancel_left e;injection e1 with _ e1
   have:=prn_inj h g (List.append_cancel_right e1);subst this;exact⟨rfl,fun _ _=>rfl,fun _=>rfl⟩
  | _=>cases hk
 | dist nm ws h1 h2 h3 =>
  cases hy with
  | dist nm' ws' g1 g2 g3 =>
   have e1:=List.append_cancel_left e;injection e1 with _ e1
   obtain⟨q1,_,e2⟩:=cut (var_nb h1) (var_nb g1) (by decide) (by decide) e1;injection e2 with _ e2
   injection e2 with _ e2
   obtain⟨q2,_⟩:=wts_inj (fun w hw=>okW_of (h3 w hw)) (fun w hw=>okW_of (g3 w hw)) h2 g2 (by decide) (by decide) e2;have q3:nm=nm':=ba_inj q1;have q4:ws=ws':=q2;subst q3 q4;exact⟨rfl,fun _ _=>rfl,fun _=>rfl⟩
  | _=>cases hk
 | cond a it el h =>
  cases hy with
  | cond b it' el' g =>
   have e1:=List.append_cancel_left e;injection e1 with _ e1
   injection e1 with _ e1
   have:=prn_inj h g (List.append_cancel_right e1);subst this;exact⟨rfl,fun k=>absurd rfl k,fun k=>absurd k (show ¬ (4:Int)=5 by decide)⟩
  | _=>cases hk
 | each nm ix it h1 h2 =>
  cases hy with
  | each nm' ix' it' g1 g2 =>
   have e1:=List.append_cancel_left e;injection e1 with _ e1
   obtain⟨q1,_,e2⟩:=cut (nm_nb h2) (nm_nb g2) (by decide) (by decide) e1;have e3:=List.append_cancel_left e2;injection e3 with _ e3
   obtain⟨q2,_,_⟩:=cut (nm_nb h1) (nm_nb g1) (by decide) (by decide) e3;have q3:ix=ix':=ba_inj q1;have q4:nm=nm':=ba_inj q2;subst q3 q4;exact⟨rfl,fun _ k=>absurd rfl k,fun _=>rfl⟩
  | _=>cases hk
 | solve bf af h1 h2 h3 h4 =>
  cases hy with
  | solve bf' af' g1 g2 g3 g4 =>
   have e1:=List.append_cancel_left e;injection e1 with _ e1
   obtain⟨q1,e2⟩:=join_inj (fun s hs=>var_nb (h3 s hs)) (fun s hs=>var_nb (g3 s hs)) h1 g1 (by decide) (by decide) e1;have e3:=List.append_cancel_left e2;injection e3 with _ e3
   obtain⟨q2,_⟩:=join_inj (fun s hs=>var_nb (h4 s hs)) (fun s hs=>var_nb (g4 s hs)) h2 g2 (by decide) (by decide) e3;have q3:bf=bf':=q1;have q4:af=af':=q2;subst q3 q4;exact⟨rfl,fun _ _=>rfl,fun _=>rfl⟩
  | _=>cases hk
def Rst (k:Nat) (R:List (List UInt8)):Prop:=R=[]∨∃ j s r,R=(bl j++s)::r∧j<k∧Nbl s
theorem rst_brace (k:Nat) (R:List (List UInt8)):Rst (k+1) ((bl k++[125])::R):=.inr ⟨k,[125],R,rfl,by omega,125,[],rfl,by decide⟩
theorem rst_else (k:Nat) (R:List (List UInt8)):Rst (k+1) ((bl k++elsL)::R):=.inr ⟨k,elsL,R,rfl,by omega,125,_,rfl,by decide⟩
theorem rst_no {k:Nat} {R:List (List UInt8)} {s:List UInt8} {r:List (List UInt8)} (h:Rst k R) (hs:Nbl s) (e:R=(bl k++s)::r):False:=by
 rcases h with h | ⟨j,t,q,h,hj,ht⟩
 ·rw [h] at e;cases e
 ·rw [h] at e;injection e with e _
  have:=(bl_inj ht hs e).1;omega
theorem hd_n {x:It} (h:Fm x):Nbl (hdL x):=by
 obtain⟨c,r,e,h1,_⟩:=hd_nbl h;exact⟨c,r,e,h1⟩
theorem brace_ne_else (k:Nat):bl k++[125]≠bl k++elsL:=fun e=>by
 have:=List.append_cancel_left e;exact absurd this (by decide)
theorem uniq (l:List It):∀ (m:List It) (k:Nat) (R S:List (List UInt8)),VL l→VL m→Rst k R→Rst k S→liL k l++R=liL k m++S→l=m∧R=S:=by
 induction l using its_rec with
 | h0 =>
  intro m k R S _ hm hR hS e;cases m with
  | nil=>rw [liL_nil] at e;exact⟨rfl,e⟩
  | cons y s =>
   rw [vL_cons,vI_eq] at hm;obtain⟨⟨⟨d,hd⟩,_⟩,_⟩:=hm;rw [liL_nil,List.nil_append,liL_cons,liI_eq,List.cons_append,List.cons_append] at e;exact (rst_no hR (hd_n (fm_of hd)) e).elim
 | h1 x r i1 i2 i3 =>
  intro m k R S hl hm hR hS e;rw [vL_cons,vI_eq] at hl;obtain⟨⟨⟨d,hd⟩,v1,v2⟩,v3⟩:=hl;have hx:=fm_of hd;cases m with
  | nil =>
   rw [liL_nil,List.nil_append,liL_cons,liI_eq,List.cons_append,List.cons_append] at e;exact (rst_no hS (hd_n hx) e.symm).elim
  | cons y s =>
   rw [vL_cons,vI_eq] at hm;obtain⟨⟨⟨d',hd'⟩,w1,w2⟩,w3⟩:=hm;have hy:=fm_of hd';rw [liL_cons,liL_cons,liI_eq,liI_eq] at e;simp only [List.cons_append,List.append_assoc] at e;injection e with e1 e2
   have e1:=(bl_inj (hd_n hx) (hd_n hy) e1).2;obtain⟨g1,g2,g3⟩:=hd_inj hx hy e1;have hk:x.kd=y.kd:=(by rw [g1];rfl);by_cases k4:x.kd=4
   ·rw [if_pos k4,if_pos (hk.symm.trans k4)] at e2;simp only [List.append_assoc] at e2;have fin:∀ (P Q:List (List UInt8)),x.it=y.it→x.el=y.el→r=s∧P=Q→x::r=y::s∧P=Q:=fun P Q h1 h2 h3=>by
     refine⟨?_,h3.2⟩;rw [h3.1]
     congr 1
     rw [g1,←h1,←h2];exact It.eta x
    by_cases c1:x.el.isEmpty=true
    ·rw [if_pos c1] at e2;by_cases c2:y.el.isEmpty=true
     ·rw [if_pos c2] at e2;simp only [List.nil_append,List.cons_append] at e2;obtain⟨h1,h2⟩:=i1 y.it (k+1) _ _ v1 w1 (rst_brace k _) (rst_brace k _) e2;injection h2 with _ h2
      exact fin _ _ h1 (by rw [List.isEmpty_iff.1 c1,List.isEmpty_iff.1 c2]) (i3 s k R S v3 w3 hR hS h2)
     ·rw [if_neg c2] at e2;simp only [List.nil_append,List.cons_append] at e2;obtain⟨_,h2⟩:=i1 y.it (k+1) _ _ v1 w1 (rst_brace k _) (rst_else k _) e2;injection h2 with h2 _
      exact (brace_ne_else k h2).elim
    ·rw [if_neg c1] at e2;by_cases c2:y.el.isEmpty=true
     ·rw [if_pos c2] at e2;simp only [List.nil_append,List.cons_append] at e2;obtain⟨_,h2⟩:=i1 y.it (k+1) _ _ v1 w1 (rst_else k _) (rst_brace k _) e2;injection h2 with h2 _
      exact (brace_ne_else k h2.symm).elim
     ·rw [if_neg c2] at e2;simp only [List.cons_append] at e2;obtain⟨h1,h2⟩:=i1 y.it (k+1) _ _ v1 w1 (rst_else k _) (rst_else k _) e2;injection h2 with _ h2
      obtain⟨h3,h4⟩:=i2 y.el (k+1) _ _ v2 w2 (rst_brace k _) (rst_brace k _) h2;injection h4 with _ h4
      exact fin _ _ h1 h3 (i3 s k R S v3 w3 hR hS h4)
   ·rw [if_neg k4,if_neg (fun h=>k4 (hk.trans h))] at e2;by_cases k5:x.kd=5
    ·rw [if_pos k5,if_pos (hk.symm.trans k5)] at e2;simp only [List.append_assoc,List.cons_append,List.nil_append] at e2;obtain⟨h1,h2⟩:=i1 y.it (k+1) _ _ v1 w1 (rst_brace k _) (rst_brace k _) e2;injection h2 with _ h2
     obtain⟨h3,h4⟩:=i3 s k R S v3 w3 hR hS h2;refine⟨?_,h4⟩;rw [h3]
     congr 1
     rw [g1,←h1,←g3 k5];exact It.eta x
    ·rw [if_neg k5,if_neg (fun h=>k5 (hk.trans h)),List.nil_append,List.nil_append] at e2;obtain⟨h3,h4⟩:=i3 s k R S v3 w3 hR hS e2;exact⟨by rw [h3,g2 k4 k5],h4⟩
end CtM
namespace CtM
open Go NumM LexM ExM EtM ItM
open ClM (Fld fieldE okF maxI)
structure Kl where
 nm:ByteArray
 par:ByteArray
 fs:List Fld
 bs:List (ByteArray × List It)
def randW:List UInt8:=[114,97,110,100]
def randcW:List UInt8:=[114,97,110,100,99]
def stateW:List UInt8:=[115,116,97,116,101]
def classW:List UInt8:=[99,108,97,115,115]
def extendsW:List UInt8:=[101,120,116,101,110,100,115]
def constraintW:List UInt8:=[99,111,110,115,116,114,97,105,110,116]
def mdW (m:Int):List UInt8:=if m=1 then randW else if m=2 then randcW else stateW
def fldL (f:Fld):List UInt8:=mdW f.md++32::(nmT f.nm++((if 0<f.sz then 91::(Lib.itoa f.sz++[93]) else [])++32::58::32::(Lib.itoa f.wd++((if f.md=0 then 32::61::32::Lib.itoa f.ini else [])++[59]))))
def blkH (n:ByteArray):List UInt8:=constraintW++32::(nmT n++[32,123])
def blkL (b:ByteArray × List It):List (List UInt8):=(bl 1++blkH b.1)::(liL 2 b.2++[bl 1++[125]])
def clsH (c:Kl):List UInt8:=classW++32::(nmT c.nm++((if c.par.size=0 then [] else 32::(extendsW++32::nmT c.par))++[32,123]))
def clsL (c:Kl):List (List UInt8):=clsH c::(c.fs.map (fun f=>bl 1++fldL f)++(c.bs.flatMap blkL++[[125]]))
structure VK (c:Kl):Prop where
 nm:nmB (nmT c.nm)=true
 par:c.par.size=0∨nmB (nmT c.par)=true
 fs:∀ f∈c.fs,fieldE f=0
 bs:∀ b∈c.bs,nmB (nmT b.1)=true∧VL b.2
theorem fld_ok {f:Fld} (h:fieldE f=0):nmB (nmT f.nm)=true∧(1≤f.wd∧f.wd≤8)∧(0≤f.sz∧f.sz≤8)∧(f.md=0∨f.md=1∨f.md=2)∧0≤f.ini∧(f.md≠0→f.ini=0):=by
 unfold fieldE at h;split at h
 ·cases h
 ·rename_i hb;split at h
  ·rename_i ho;unfold okF at ho;simp only [decide_eq_true_eq] at ho;obtain⟨h1,h2,h3,h4,h5,h6,_,h7,h8⟩:=ho;refine⟨?_,⟨h1,h2⟩,⟨h3,h4⟩,by omega,h7,fun hm=>?_⟩
   ·unfold ClM.bad at hb;show nmB f.nm.data.toList=true
    simpa using hb
   ·unfold maxI at h8;rw [if_neg hm] at h8;omega
  ·cases h
theorem nm_wrd {s:ByteArray} (h:nmB (nmT s)=true):(nmT s).all wrd=true:=(nm_parts h).2.1
theorem bl_one (s:List UInt8) (r:List (List UInt8)) (R:List (List UInt8)):(bl 1++s)::r≠[125]::R:=fun e=>by
 injection e with e _
 have:(bl 1++s).head? = some 32:=rfl;rw [e] at this;cases this
theorem bs_inj:∀ {p q:List (ByteArray × List It)},(∀ b∈p,nmB (nmT b.1)=true∧VL b.2)→(∀ b∈q,nmB (nmT b.1)=true∧VL b.2)→p.flatMap blkL++[[125]]=q.flatMap blkL++[[125]]→p=q
 | [],[],_,_,_=>rfl
 | [],b::q,_,_,e=>by
  rw [List.flatMap_nil,List.nil_append,List.flatMap_cons,List.append_assoc] at e;exact absurd e.symm (bl_one _ _ _)
 | a::p,[],_,_,e=>by
  rw [List.flatMap_nil,List.nil_append,List.flatMap_cons,List.append_assoc] at e;exact absurd e (bl_one _ _ _)
 | a::p,b::q,hp,hq,e=>by
  obtain⟨a1,a2⟩:=a;obtain⟨b1,b2⟩:=b;obtain⟨n1,v1⟩:=hp _ List.mem_cons_self;obtain⟨n2,v2⟩:=hq _ List.mem_cons_self;rw [List.flatMap_cons,List.flatMap_cons,List.append_assoc,List.append_assoc] at e;unfold blkL at e;simp only [List.cons_append,List.append_assoc] at e;injection e with e1 e2
  have e1:=List.append_cancel_left e1;have e1:=List.append_cancel_left e1;injection e1 with _ e1
  obtain⟨q1,_,_⟩:=cut (nm_wrd n1) (nm_wrd n2) (by decide) (by decide) e1;obtain⟨h1,h2⟩:=uniq a2 b2 2 _ _ v1 v2 (rst_brace 1 _) (rst_brace 1 _) e2;injection h2 with _ h2
  have h3:a1=b1:=ba_inj q1;rw [h3,h1,bs_inj (fun b hb=>hp b (List.mem_cons_of_mem _ hb)) (fun b hb=>hq b (List.mem_cons_of_mem _ hb)) (by unfold blkL;simpa using h2)]
def LnB (x:List UInt8):Prop:=x.all pb=true∧∃ y z,x=y++[z]∧z≠32
theorem LnB.mk {x y:List UInt8} {z:UInt8} (h:x.all pb=true) (e:x=y++[z]) (hz:z≠32):LnB x:=⟨h,y,z,e,hz⟩
def clsT (c:Kl):List UInt8:=txL (clsL c)
end CtM
namespace LexW
open Go Go.RowKit NumM LexM
theorem retb {a b:Bool} (h:a=b):Ending.returned (.bool a)=.returned (.bool b):=by rw [h]
def smI (c:Int):Bool:=decide (97≤c)&&decide (c≤122)
def dgI (c:Int):Bool:=decide (48≤c)&&decide (c≤57)
theorem isSmall_any (c:Int) (w:World):Calls Tryz.prog 146 #[.int .i32 c] w fun e w'=>e=.returned (.bool (smI c))∧w=w':=by
 by_cases h1:97≤c
 ·by_cases h2:c≤122
  all_goals
   go_enter Tryz.func146,Tryz.ntmps146
   go_wp2;go_ret;exact⟨retb (by simp [smI,h1,h2]),rfl⟩
 ·have h2:(smI c)=false:=by simp [smI];omega
  go_enter Tryz.func146,Tryz.ntmps146
  go_wp2;go_ret;exact⟨rfl,rfl⟩
theorem isDigit_any (c:Int) (w:World):Calls Tryz.prog 148 #[.int .i32 c] w fun e w'=>e=.returned (.bool (dgI c))∧w=w':=by
 by_cases h1:48≤c
 ·by_cases h2:c≤57
  all_goals
   go_enter Tryz.func148,Tryz.ntmps148
   go_wp2;go_ret;exact⟨retb (by simp [dgI,h1,h2]),rfl⟩
 ·have h2:(dgI c)=false:=by simp [dgI];omega
  go_enter Tryz.func148,Tryz.ntmps148
  go_wp2;go_ret;exact⟨rfl,rfl⟩
theorem isKeyword_no (s:ByteArray) (w:World) (h:isKw s.data.toList=false):Calls Tryz.prog 165 #[.string s] w fun e w'=>e=.returned (.bool (isKw s.data.toList))∧w=w':=by
 have hn:∀ k∈kws,(s.toList == k)=false:=fun k hk=>by
  have:=of_decide_eq_false h;rw [Lib.toList_data,beq_eq_false_iff_ne];rintro rfl;exact this hk
 have n0:=hn [99,108,97,115,115] (by decide);have n1:=hn [101,120,116,101,110,100,115] (by decide);have n2:=hn [114,97,110,100] (by decide);have n3:=hn [114,97,110,100,99] (by decide);have n4:=hn [115,116,97,116,101] (by decide);have n5:=hn [99,111,110,115,116,114,97,105,110,116] (by decide);have n6:=hn [115,111,102,116] (by decide);have n7:=hn [100,105,115,116] (by decide);have n8:=hn [105,102] (by decide);have n9:=hn [101,108,115,101] (by decide);have n10:=hn [101,97,99,104] (by decide);have n11:=hn [105,110] (by decide);have n12:=hn [115,111,108,118,101] (by decide);have n13:=hn [98,101,102,111,114,101] (by decide);have n14:=hn [105,110,115,105,100,101] (by decide);have n15:=hn [112,114,111,112,101,114,116,121] (by decide);have n16:=hn [115,101,113] (by decide);have n17:=hn [97,110,100] (by decide);have n18:=hn [111,114] (by decide);have n19:=hn [110,111,116] (by decide);have n20:=hn [115,101,116] (by decide);have n21:=hn [104,111,108,100] (by decide);have n22:=hn [112,108,97,105,110] (by decide);have n23:=hn [114,101,112,101,97,116] (by decide);have H:=Lh h;clear h hn
 go_enter Tryz.func165,Tryz.ntmps165
 go_wp2;go_ret;exact⟨retb H.out.symm,rfl⟩
theorem isKeyword_yes (s:ByteArray) (w:World) (h:isKw s.data.toList=true):Calls Tryz.prog 165 #[.string s] w fun e w'=>e=.returned (.bool (isKw s.data.toList))∧w=w':=by
 have H:=Lh h;have h:=of_decide_eq_true h;simp only [kws,List.mem_cons,List.not_mem_nil,or_false] at h;rcases h with h | h | h | h | h | h | h | h | h | h | h | h | h | h | h | h | h | h | h | h | h | h | h | h
 all_goals
  have e:=(Lib.toList_data s).trans h;clear h
  go_enter Tryz.func165,Tryz.ntmps165
  go_wp2;go_ret;exact⟨retb H.out.symm,rfl⟩
theorem isKeyword_any (s:ByteArray) (w:World):Calls Tryz.prog 165 #[.string s] w fun e w'=>e=.returned (.bool (isKw s.data.toList))∧w=w':=by
 cases h:isKw s.data.toList
 ·rw [←h];exact isKeyword_no s w h
 ·rw [←h];exact isKeyword_yes s w h
theorem isMark_no (s:ByteArray) (w:World) (h:isMk s.data.toList=false):Calls Tryz.prog 164 #[.string s] w fun e w'=>e=.returned (.bool (isMk s.data.toList))∧w=w':=by
 have hn:∀ k∈mks,(s.toList == k)=false:=fun k hk=>by
  have:=of_decide_eq_false h;rw [Lib.toList_data,beq_eq_false_iff_ne];rintro rfl;exact this hk
 have n0:=hn [40] (by decide);have n1:=hn [41] (by decide);have n2:=hn [123] (by decide);have n3:=hn [125] (by decide);have n4:=hn [91] (by decide);have n5:=hn [93] (by decide);have n6:=hn [44] (by decide);have n7:=hn [59] (by decide);have n8:=hn [58] (by decide);have n9:=hn [46,46] (by decide);have n10:=hn [63] (by decide);have n11:=hn [61] (by decide);have n12:=hn [61,61] (by decide);have n13:=hn [33,61] (by decide);have n14:=hn [60] (by decide);have n15:=hn [60,61] (by decide);have n16:=hn [62] (by decide);have n17:=hn [62,61] (by decide);have n18:=hn [60,60] (by decide);have n19:=hn [62,62] (by decide);have n20:=hn [43] (by decide);have n21:=hn [45] (by decide);have n22:=hn [42] (by decide);have n23:=hn [38] (by decide);have n24:=hn [124] (by decide);have n25:=hn [94] (by decide);have n26:=hn [126] (by decide);have n27:=hn [33] (by decide);have n28:=hn [38,38] (by decide);have n29:=hn [124,124] (by decide);have n30:=hn [45,62] (by decide);have n31:=hn [61,62] (by decide);have n32:=hn [58,61] (by decide);have n33:=hn [58,47] (by decide);have n34:=hn [35,35] (by decide);have n35:=hn [64] (by decide);have H:=Lh h;clear h hn
 go_enter Tryz.func164,Tryz.ntmps164
 go_wp2;go_ret;exact⟨retb H.out.symm,rfl⟩
theorem isMark_yes (s:ByteArray) (w:World) (h:isMk s.data.toList=true):Calls Tryz.prog 164 #[.string s] w fun e w'=>e=.returned (.bool (isMk s.data.toList))∧w=w':=by
 have H:=Lh h;have h:=of_decide_eq_true h;simp only [mks,List.mem_cons,List.not_mem_nil,or_false] at h;rcases h with h | h | h | h | h | h | h | h | h | h | h | h | h | h | h | h | h | h | h | h | h | h | h | h | h | h | h | h | h | h | h | h | h | h | h | h
 all_goals
  have e:=(Lib.toList_data s).trans h;clear h
  go_enter Tryz.func164,Tryz.ntmps164
  go_wp2;go_ret;exact⟨retb H.out.symm,rfl⟩
theorem isMark_any (s:ByteArray) (w:World):Calls Tryz.prog 164 #[.string s] w fun e w'=>e=.returned (.bool (isMk s.data.toList))∧w=w':=by
 cases h:isMk s.data.toList
 ·rw [←h];exact isMark_no s w h
 ·rw [←h];exact isMark_yes s w h
end LexW
end Go.Proofs.YtihnejaopejbgaaGreatDoor
