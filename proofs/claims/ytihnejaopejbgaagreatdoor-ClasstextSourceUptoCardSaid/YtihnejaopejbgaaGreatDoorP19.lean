/-
  Laws that the card uses; no conditions beside those that each states (ClField ClValid).
-/
import Derived.Test.YtihnejaopejbgaaGreatDoorP15
set_option maxRecDepth 100000
set_option maxHeartbeats 16000000
namespace Go.Proofs.YtihnejaopejbgaaGreatDoor
namespace ClW
open Go Go.RowKit NumM LexW LexM ClM
open Go.«Sort»
theorem fieldE_bad {f:Fld} (h:bad f.nm=true):fieldE f=7:=if_pos h
theorem fieldE_one {f:Fld} (h:bad f.nm=false) (ho:okF f=false):fieldE f=1:=by unfold fieldE;rw [h,ho];rfl
theorem fieldE_ok {f:Fld} (h:bad f.nm=false) (ho:okF f=true):fieldE f=0:=by unfold fieldE;rw [h,ho];rfl
theorem valField_any (nm:ByteArray) (wd sz md ini:Int) (w:World) (hs:nm.size≤140737488351232) (ht:Tab w) :
  Calls Tryz.prog 51 #[fv nm wd sz md ini] w (tInt (fieldE ⟨nm,wd,sz,md,ini⟩) w):=by
 have F0:=Blk.new w [.string nm,.int .i64 wd,.int .i64 sz,.int .i64 md,.int .i64 ini] 55;have HB0:=Lh (ba w (.cells #[.string nm,.int .i64 wd,.int .i64 sz,.int .i64 md,.int .i64 ini] 55));have NC:=Lh (isNm_any nm _ hs (ht.later HB0.out));have HF:=Lh F0;have c0:=F0.c 0 _ rfl;have c1:=F0.c 1 _ rfl;have c2:=F0.c 2 _ rfl;have c3:=F0.c 3 _ rfl;have c4:=F0.c 4 _ rfl;clear F0;cases hbad:bad nm
 rotate_left
 ·have E:=Lh (fieldE_bad (f:=⟨nm,wd,sz,md,ini⟩) hbad);rw [hbad] at NC;clear hbad
  go_enter Tryz.func51,Tryz.ntmps51
  go_wp2_with (first
   |(go_at_call 49;((with_reducible refine NC.out.mono ?_);rintro e w1 ⟨rfl,hb1⟩;have HB1:=Lh (HB0.out.then_ hb1);have HG:=HF.out.stay hb1;have d0:=HG.c 0 _ rfl;have d1:=HG.c 1 _ rfl;have d2:=HG.c 2 _ rfl;have d3:=HG.c 3 _ rfl;have d4:=HG.c 4 _ rfl;have HFG:=Lh HG;clear hb1 HG)))
  go_ret;exact tInt_mk (E.out).symm HB1.out
 ·have E1:Hid (¬ (1≤wd∧wd≤8∧0≤sz∧sz≤8∧0≤md∧md≤2∧¬ (0<sz∧md=2)∧0≤ini∧ini≤maxI ⟨nm,wd,sz,md,ini⟩)→fieldE ⟨nm,wd,sz,md,ini⟩=1):=Lh (fun h=>fieldE_one hbad (decide_eq_false h));have E2:Hid ((1≤wd∧wd≤8∧0≤sz∧sz≤8∧0≤md∧md≤2∧¬ (0<sz∧md=2)∧0≤ini∧ini≤maxI ⟨nm,wd,sz,md,ini⟩)→fieldE ⟨nm,wd,sz,md,ini⟩=0):=Lh (fun h=>fieldE_ok hbad (decide_eq_true h));rw [hbad] at NC;clear hbad;have MC:=Lh (fun W=>isMode_any md W);by_cases h1:wd<1
  ·have E:Hid (fieldE ⟨nm,wd,sz,md,ini⟩=1):=Lh (E1.out (fun h=>by omega));clear E1 E2
   go_enter Tryz.func51,Tryz.ntmps51
   go_wp2_with (first
    |(go_at_call 49;((with_reducible refine NC.out.mono ?_);rintro e w1 ⟨rfl,hb1⟩;have HB1:=Lh (HB0.out.then_ hb1);have HG:=HF.out.stay hb1;have d0:=HG.c 0 _ rfl;have d1:=HG.c 1 _ rfl;have d2:=HG.c 2 _ rfl;have d3:=HG.c 3 _ rfl;have d4:=HG.c 4 _ rfl;have HFG:=Lh HG;clear hb1 HG)))
   go_ret;exact tInt_mk (E.out).symm HB1.out
  ·have n1:decide (wd<1)=false:=decide_eq_false h1;by_cases h2:8<wd
   ·have E:Hid (fieldE ⟨nm,wd,sz,md,ini⟩=1):=Lh (E1.out (fun h=>by omega));clear E1 E2
    go_enter Tryz.func51,Tryz.ntmps51
    go_wp2_with (first
     |(go_at_call 49;((with_reducible refine NC.out.mono ?_);rintro e w1 ⟨rfl,hb1⟩;have HB1:=Lh (HB0.out.then_ hb1);have HG:=HF.out.stay hb1;have d0:=HG.c 0 _ rfl;have d1:=HG.c 1 _ rfl;have d2:=HG.c 2 _ rfl;have d3:=HG.c 3 _ rfl;have d4:=HG.c 4 _ rfl;have HFG:=Lh HG;clear hb1 HG)))
    go_ret;exact tInt_mk (E.out).symm HB1.out
   ·have n2:decide (8<wd)=false:=decide_eq_false h2;by_cases h3:sz<0
    ·have E:Hid (fieldE ⟨nm,wd,sz,md,ini⟩=1):=Lh (E1.out (fun h=>by omega));clear E1 E2
     go_enter Tryz.func51,Tryz.ntmps51
     go_wp2_with (first
      |(go_at_call 49;((with_reducible refine NC.out.mono ?_);rintro e w1 ⟨rfl,hb1⟩;have HB1:=Lh (HB0.out.then_ hb1);have HG:=HF.out.stay hb1;have d0:=HG.c 0 _ rfl;have d1:=HG.c 1 _ rfl;have d2:=HG.c 2 _ rfl;have d3:=HG.c 3 _ rfl;have d4:=HG.c 4 _ rfl;have HFG:=Lh HG;clear hb1 HG)))
     go_ret;exact tInt_mk (E.out).symm HB1.out
    ·have n3:decide (sz<0)=false:=decide_eq_false h3;by_cases h4:8<sz
     ·have E:Hid (fieldE ⟨nm,wd,sz,md,ini⟩=1):=Lh (E1.out (fun h=>by omega));clear E1 E2
      go_enter Tryz.func51,Tryz.ntmps51
      go_wp2_with (first
       |(go_at_call 49;((with_reducible refine NC.out.mono ?_);rintro e w1 ⟨rfl,hb1⟩;have HB1:=Lh (HB0.out.then_ hb1);have HG:=HF.out.stay hb1;have d0:=HG.c 0 _ rfl;have d1:=HG.c 1 _ rfl;have d2:=HG.c 2 _ rfl;have d3:=HG.c 3 _ rfl;have d4:=HG.c 4 _ rfl;have HFG:=Lh HG;clear hb1 HG)))
      go_ret;exact tInt_mk (E.out).symm HB1.out
     ·have n4:decide (8<sz)=false:=decide_eq_false h4;by_cases h5:0≤md∧md≤2
      rotate_left
      ·have E:Hid (fieldE ⟨nm,wd,sz,md,ini⟩=1):=Lh (E1.out (fun h=>by omega));clear E1 E2;rw [decide_eq_false h5] at MC;clear h5
       go_enter Tryz.func51,Tryz.ntmps51
       go_wp2_with (first
        |(go_at_call 49;((with_reducible refine NC.out.mono ?_);rintro e w1 ⟨rfl,hb1⟩;have HB1:=Lh (HB0.out.then_ hb1);have HG:=HF.out.stay hb1;have d0:=HG.c 0 _ rfl;have d1:=HG.c 1 _ rfl;have d2:=HG.c 2 _ rfl;have d3:=HG.c 3 _ rfl;have d4:=HG.c 4 _ rfl;have HFG:=Lh HG;clear hb1 HG))
        |(go_at_call 90;((with_reducible refine (MC.out _).mono ?_);rintro e w2 ⟨rfl,rfl⟩)))
       go_ret;exact tInt_mk (E.out).symm HB1.out
      ·rw [decide_eq_true h5] at MC;by_cases h6:0<sz∧md=2
       ·have E:Hid (fieldE ⟨nm,wd,sz,md,ini⟩=1):=Lh (E1.out (fun h=>by omega));clear E1 E2 h5;obtain⟨g1,g2⟩:=h6;have g3:(md == 2)=true:=(by rw [beq_iff_eq];exact g2);clear g2
        go_enter Tryz.func51,Tryz.ntmps51
        go_wp2_with (first
         |(go_at_call 49;((with_reducible refine NC.out.mono ?_);rintro e w1 ⟨rfl,hb1⟩;have HB1:=Lh (HB0.out.then_ hb1);have HG:=HF.out.stay hb1;have d0:=HG.c 0 _ rfl;have d1:=HG.c 1 _ rfl;have d2:=HG.c 2 _ rfl;have d3:=HG.c 3 _ rfl;have d4:=HG.c 4 _ rfl;have HFG:=Lh HG;clear hb1 HG))
         |(go_at_call 90;((with_reducible refine (MC.out _).mono ?_);rintro e w2 ⟨rfl,rfl⟩)))
        go_ret;exact tInt_mk (E.out).symm HB1.out
       ·have g1:decide (0<sz)=false∨(decide (0<sz)=true∧(md == 2)=false):=by
         by_cases g:0<sz
         ·exact .inr ⟨decide_eq_true g,by rw [beq_eq_false_iff_ne];exact fun e=>h6 ⟨g,e⟩⟩
         ·exact .inl (decide_eq_false g)
        by_cases h7:ini<0
        ·have E:Hid (fieldE ⟨nm,wd,sz,md,ini⟩=1):=Lh (E1.out (fun h=>by omega));clear E1 E2 h5 h6;rcases g1 with g1 | ⟨g1,g2⟩
         all_goals
          go_enter Tryz.func51,Tryz.ntmps51
          go_wp2_with (first
           |(go_at_call 49;((with_reducible refine NC.out.mono ?_);rintro e w1 ⟨rfl,hb1⟩;have HB1:=Lh (HB0.out.then_ hb1);have HG:=HF.out.stay hb1;have d0:=HG.c 0 _ rfl;have d1:=HG.c 1 _ rfl;have d2:=HG.c 2 _ rfl;have d3:=HG.c 3 _ rfl;have d4:=HG.c 4 _ rfl;have HFG:=Lh HG;clear hb1 HG))
           |(go_at_call 90;((with_reducible refine (MC.out _).mono ?_);rintro e w2 ⟨rfl,rfl⟩)))
          go_ret;exact tInt_mk (E.out).symm HB1.out
        ·have n7:decide (ini<0)=false:=decide_eq_false h7;have GC:=Lh (fun W=>great_any nm wd sz md ini W (by omega));have EM:Hid (∀ b:Bool,decide (maxI ⟨nm,wd,sz,md,ini⟩<ini)=b→fieldE ⟨nm,wd,sz,md,ini⟩=if b=true then 1 else 0):=Lh fun b hb=>by
          cases b
          ·rw [if_neg (by simp)];exact E2.out ⟨by omega,by omega,by omega,by omega,by omega,by omega,h6,by omega,by have:=of_decide_eq_false hb;omega⟩
          ·rw [if_pos rfl];exact E1.out (fun h=>by have:=of_decide_eq_true hb;omega)
         generalize maxI ⟨nm,wd,sz,md,ini⟩=M at *
         clear E1 E2 h6;rcases g1 with g1 | ⟨g1,g2⟩
         all_goals
          cases h8:decide (M<ini)
          all_goals
           have E:=Lh (EM.out _ h8);have h8':decide (ini > M)=_:=h8;clear EM h5
           go_enter Tryz.func51,Tryz.ntmps51
           go_wp2_with (first
            |(go_at_call 49;((with_reducible refine NC.out.mono ?_);rintro e w1 ⟨rfl,hb1⟩;have HB1:=Lh (HB0.out.then_ hb1);have HG:=HF.out.stay hb1;have d0:=HG.c 0 _ rfl;have d1:=HG.c 1 _ rfl;have d2:=HG.c 2 _ rfl;have d3:=HG.c 3 _ rfl;have d4:=HG.c 4 _ rfl;have HFG:=Lh HG;clear hb1 HG))
            |(go_at_call 90;((with_reducible refine (MC.out _).mono ?_);rintro e w2 ⟨rfl,rfl⟩)))
           have m0:=cell_regrown d0;have m1:=cell_regrown d1;have m2:=cell_regrown d2;have m3:=cell_regrown d3;have m4:=cell_regrown d4;have EC:=reB (v:=.int .i64 M) (w:=w1) (fun W _=>GC.out W);refine wp_region_quiet_below (by kernel_rfl) (by kernel_rfl) ?_;repeat (first | go_big_quiet_step ((go_at_call 91;with_reducible exact EC _ _)) | quiet_step ((go_at_call 91;with_reducible exact EC _ _)))
           refine wpQuiet_nil ?_;intro w4 hw';obtain⟨pq,hw''⟩:=hw';have HX:Hid (Below w1.heap.size w1 w4):=Lh (by rw [hw''];exact below_regrown _ _ _);clear hw'' m0 m1 m2 m3 m4 EC;go_wp2;go_ret;exact tInt_mk E.out.symm (HB1.out.then_ HX.out)
end ClW
namespace ClW
open Go Go.RowKit NumM LexW LexM ClM
theorem validE_1 {c:Cl} (h:bad c.nm=true):validE c=7:=by unfold validE;rw [h];rfl
theorem validE_2 {c:Cl} (h:same c.par emp=false) (h2:bad c.par=true):validE c=7:=by unfold validE;rw [h,h2];cases bad c.nm<;>rfl
theorem validE_pre {c:Cl} (h:bad c.nm=false) (h2:same c.par emp=true∨bad c.par=false):validE c=if large c=true then 2
 else if firstE (c.fs.map fieldE)≠0 then firstE (c.fs.map fieldE)
 else if c.bs.any (fun b=>bad b.nm)=true then 7
 else if (dupB (c.fs.map Fld.nm)||dupB (c.bs.map Bk.nm))=true then 8
 else 0:=by
 unfold validE;have:(bad c.nm||(!same c.par emp&&bad c.par))=false:=by
  rw [h];rcases h2 with h2 | h2<;>rw [h2]<;>simp
 rw [this];rfl
theorem any_map {α β:Type} (l:List α) (f:α→β) (q:β→Bool):(l.map f).any q=l.any (fun x=>q (f x)):=by
 rw [List.any_map];rfl
theorem first_next {l:List Fld} {k:Nat} {f:Fld} (h:l[k]? = some f) (hz:∀ x∈(l.map fieldE).take k,x=0) (hf:fieldE f=0):∀ x∈(l.map fieldE).take (k+1),x=0:=by
 obtain⟨hk,he⟩:=List.getElem?_eq_some_iff.1 h;intro x hx;rw [List.take_succ_eq_append_getElem (by rw [List.length_map];exact hk),List.mem_append] at hx;rcases hx with hx | hx
 ·exact hz x hx
 ·rw [List.mem_singleton,List.getElem_map,he] at hx;rw [hx];exact hf
theorem first_here {l:List Fld} {k:Nat} {f:Fld} (h:l[k]? = some f) (hz:∀ x∈(l.map fieldE).take k,x=0) (hf:fieldE f≠0):firstE (l.map fieldE)=fieldE f :=
 firstE_at (by rw [List.getElem?_map,h];rfl) hf hz
theorem valid_1 (c:Cl) (pf:Option Addr) (cf:Nat) (pb:Option Addr) (cb N:Nat) (w:World) (hv:CV (Lo N) w pf cf pb cb c) (ht:Tab w) (h1:bad c.nm=true) :
  Calls Tryz.prog 31 #[cv c.nm c.par (.slice pf c.fs.length cf) (.slice pb c.bs.length cb)] w (tInt 7 w):=by
 have F0:=Blk.new w [.string c.nm,.string c.par,.slice pf c.fs.length cf,.slice pb c.bs.length cb] 32;have hb0:=ba w (.cells #[.string c.nm,.string c.par,.slice pf c.fs.length cf,.slice pb c.bs.length cb] 32);have NC:Hid (∀ W,Below w.heap.size w W→Calls Tryz.prog 49 #[.string c.nm] W (tBool (!bad c.nm) W)):=(Lh fun W hW=>isNm_any c.nm W hv.nm (ht.later hW));have PC:Hid (∀ W,Below w.heap.size w W→Calls Tryz.prog 49 #[.string c.par] W (tBool (!bad c.par) W)):=(Lh fun W hW=>isNm_any c.par W hv.par (ht.later hW));obtain⟨_,_,Gf,ef,rf⟩:=hv.fs.rowOf;rw [List.length_map] at ef;cases ef;obtain⟨_,_,Gb,eb,rb⟩:=hv.bs.rowOf;rw [List.length_map] at eb;cases eb;have hlf:=rf.hl;have hlb:=rb.hl;rw [List.length_map] at hlf hlb;simp only [byt] at hlf hlb;have LC:Hid (∀ W,Calls Tryz.prog 50 #[cv c.nm c.par (.slice pf c.fs.length cf) (.slice pb c.bs.length cb)] W (tBool (large c) W)):=(Lh fun W=>large_any _ _ _ _ _ _ _ _ W (by omega) (by omega));have RF:=Lh rf;have RB:=Lh rb;have HT:=Lh ht;have HF:=Lh F0;have HB0:=Lh hb0;have c0:=F0.c 0 _ rfl;have c1:=F0.c 1 _ rfl;have c2:=F0.c 2 _ rfl;have c3:=F0.c 3 _ rfl;clear F0 hb0 hv ht rf rb;rw [h1] at NC;clear h1
 go_enter Tryz.func31,Tryz.ntmps31
 go_wp2_with (go_at_call 49;((with_reducible refine (NC.out _ HB0.out).mono ?_);rintro e w1 ⟨rfl,hb⟩;have HB1:=Lh (HB0.out.then_ hb);have G:=HF.out.stay hb;(try clear c0);(try clear c1);(try clear c2);(try clear c3);have c0:=G.c 0 _ rfl;have c1:=G.c 1 _ rfl;have c2:=G.c 2 _ rfl;have c3:=G.c 3 _ rfl;have HG1:=Lh G;clear hb G))
 go_ret;exact⟨rfl,HB1.out⟩
theorem valid_2 (c:Cl) (pf:Option Addr) (cf:Nat) (pb:Option Addr) (cb N:Nat) (w:World) (hv:CV (Lo N) w pf cf pb cb c) (ht:Tab w) (h1:bad c.nm=false) (h2:same c.par emp=false) (h3:bad c.par=true) :
  Calls Tryz.prog 31 #[cv c.nm c.par (.slice pf c.fs.length cf) (.slice pb c.bs.length cb)] w (tInt 7 w):=by
 have F0:=Blk.new w [.string c.nm,.string c.par,.slice pf c.fs.length cf,.slice pb c.bs.length cb] 32;have hb0:=ba w (.cells #[.string c.nm,.string c.par,.slice pf c.fs.length cf,.slice pb c.bs.length cb] 32);have NC:Hid (∀ W,Below w.heap.size w W→Calls Tryz.prog 49 #[.string c.nm] W (tBool (!bad c.nm) W)):=(Lh fun W hW=>isNm_any c.nm W hv.nm (ht.later hW));have PC:Hid (∀ W,Below w.heap.size w W→Calls Tryz.prog 49 #[.string c.par] W (tBool (!bad c.par) W)):=(Lh fun W hW=>isNm_any c.par W hv.par (ht.later hW));obtain⟨_,_,Gf,ef,rf⟩:=hv.fs.rowOf;rw [List.length_map] at ef;cases ef;obtain⟨_,_,Gb,eb,rb⟩:=hv.bs.rowOf;rw [List.length_map] at eb;cases eb;have hlf:=rf.hl;have hlb:=rb.hl;rw [List.length_map] at hlf hlb;simp only [byt] at hlf hlb;have LC:Hid (∀ W,Calls Tryz.prog 50 #[cv c.nm c.par (.slice pf c.fs.length cf) (.slice pb c.bs.length cb)] W (tBool (large c) W)):=(Lh fun W=>large_any _ _ _ _ _ _ _ _ W (by omega) (by omega));have RF:=Lh rf;have RB:=Lh rb;have HT:=Lh ht;have HF:=Lh F0;have HB0:=Lh hb0;have c0:=F0.c 0 _ rfl;have c1:=F0.c 1 _ rfl;have c2:=F0.c 2 _ rfl;have c3:=F0.c 3 _ rfl;clear F0 hb0 hv ht rf rb;have e1:=same_nil h2;rw [h1] at NC;rw [h3] at PC;clear h1 h2 h3
 go_enter Tryz.func31,Tryz.ntmps31
 go_wp2_with (first
  |(go_at_call 49;((with_reducible refine (NC.out _ HB0.out).mono ?_);rintro e w1 ⟨rfl,hb⟩;have HB1:=Lh (HB0.out.then_ hb);have G:=HF.out.stay hb;(try clear c0);(try clear c1);(try clear c2);(try clear c3);have c0:=G.c 0 _ rfl;have c1:=G.c 1 _ rfl;have c2:=G.c 2 _ rfl;have c3:=G.c 3 _ rfl;have HG1:=Lh G;clear hb G))
  |(go_at_call 49;((with_reducible refine (PC.out _ HB1.out).mono ?_);rintro e w2 ⟨rfl,hb⟩;have HB2:=Lh (HB1.out.then_ hb);have G:=HG1.out.stay hb;(try clear c0);(try clear c1);(try clear c2);(try clear c3);have c0:=G.c 0 _ rfl;have c1:=G.c 1 _ rfl;have c2:=G.c 2 _ rfl;have c3:=G.c 3 _ rfl;have HG2:=Lh G;clear hb G)))
 go_ret;exact⟨rfl,HB2.out⟩
theorem valid_30 (c:Cl) (pf:Option Addr) (cf:Nat) (pb:Option Addr) (cb N:Nat) (w:World) (hv:CV (Lo N) w pf cf pb cb c) (ht:Tab w) (h1:bad c.nm=false) (h2:same c.par emp=true) (h4:large c=true) :
  Calls Tryz.prog 31 #[cv c.nm c.par (.slice pf c.fs.length cf) (.slice pb c.bs.length cb)] w (tInt 2 w):=by
 have F0:=Blk.new w [.string c.nm,.string c.par,.slice pf c.fs.length cf,.slice pb c.bs.length cb] 32;have hb0:=ba w (.cells #[.string c.nm,.string c.par,.slice pf c.fs.length cf,.slice pb c.bs.length cb] 32);have NC:Hid (∀ W,Below w.heap.size w W→Calls Tryz.prog 49 #[.string c.nm] W (tBool (!bad c.nm) W)):=(Lh fun W hW=>isNm_any c.nm W hv.nm (ht.later hW));have PC:Hid (∀ W,Below w.heap.size w W→Calls Tryz.prog 49 #[.string c.par] W (tBool (!bad c.par) W)):=(Lh fun W hW=>isNm_any c.par W hv.par (ht.later hW));obtain⟨_,_,Gf,ef,rf⟩:=hv.fs.rowOf;rw [List.length_map] at ef;cases ef;obtain⟨_,_,Gb,eb,rb⟩:=hv.bs.rowOf;rw [List.length_map] at eb;cases eb;have hlf:=rf.hl;have hlb:=rb.hl;rw [List.length_map] at hlf hlb;simp only [byt] at hlf hlb;have LC:Hid (∀ W,Calls Tryz.prog 50 #[cv c.nm c.par (.slice pf c.fs.length cf) (.slice pb c.bs.length cb)] W (tBool (large c) W)):=(Lh fun W=>large_any _ _ _ _ _ _ _ _ W (by omega) (by omega));have RF:=Lh rf;have RB:=Lh rb;have HT:=Lh ht;have HF:=Lh F0;have HB0:=Lh hb0;have c0:=F0.c 0 _ rfl;have c1:=F0.c 1 _ rfl;have c2:=F0.c 2 _ rfl;have c3:=F0.c 3 _ rfl;clear F0 hb0 hv ht rf rb;have e1:=same_nil h2;rw [h1] at NC;rw [h4] at LC;clear h1 h2 h4
 go_enter Tryz.func31,Tryz.ntmps31
 go_wp2_with (first
  |(go_at_call 49;((with_reducible refine (NC.out _ HB0.out).mono ?_);rintro e w1 ⟨rfl,hb⟩;have HB1:=Lh (HB0.out.then_ hb);have G:=HF.out.stay hb;(try clear c0);(try clear c1);(try clear c2);(try clear c3);have c0:=G.c 0 _ rfl;have c1:=G.c 1 _ rfl;have c2:=G.c 2 _ rfl;have c3:=G.c 3 _ rfl;have HG1:=Lh G;clear hb G))
  |(go_at_call 50;((with_reducible refine (LC.out _).mono ?_);rintro e w2 ⟨rfl,hb⟩;have HB2:=Lh (HB1.out.then_ hb);have G:=HG1.out.stay hb;(try clear c0);(try clear c1);(try clear c2);(try clear c3);have c0:=G.c 0 _ rfl;have c1:=G.c 1 _ rfl;have c2:=G.c 2 _ rfl;have c3:=G.c 3 _ rfl;have HG2:=Lh G;clear hb G)))
 go_ret;exact⟨rfl,HB2.out⟩
theorem valid_40 (c:Cl) (pf:Option Addr) (cf:Nat) (pb:Option Addr) (cb N:Nat) (w:World) (hv:CV (Lo N) w pf cf pb cb c) (hN:N≤w.heap.size) (ht:Tab w) (h1:bad c.nm=false) (h2:same c.par emp=true) (h4:large c=false) :
  Calls Tryz.prog 31 #[cv c.nm c.par (.slice pf c.fs.length cf) (.slice pb c.bs.length cb)] w (tInt (validE c) w):=by
 have F0:=Blk.new w [.string c.nm,.string c.par,.slice pf c.fs.length cf,.slice pb c.bs.length cb] 32;have hb0:=ba w (.cells #[.string c.nm,.string c.par,.slice pf c.fs.length cf,.slice pb c.bs.length cb] 32);have NC:Hid (∀ W,Below w.heap.size w W→Calls Tryz.prog 49 #[.string c.nm] W (tBool (!bad c.nm) W)):=(Lh fun W hW=>isNm_any c.nm W hv.nm (ht.later hW));have PC:Hid (∀ W,Below w.heap.size w W→Calls Tryz.prog 49 #[.string c.par] W (tBool (!bad c.par) W)):=(Lh fun W hW=>isNm_any c.par W hv.par (ht.later hW));obtain⟨_,_,Gf,ef,rf⟩:=hv.fs.rowOf;rw [List.length_map] at ef;cases ef;obtain⟨_,_,Gb,eb,rb⟩:=hv.bs.rowOf;rw [List.length_map] at eb;cases eb;have hlf:=rf.hl;have hlb:=rb.hl;rw [List.length_map] at hlf hlb;simp only [byt] at hlf hlb;have LC:Hid (∀ W,Calls Tryz.prog 50 #[cv c.nm c.par (.slice pf c.fs.length cf) (.slice pb c.bs.length cb)] W (tBool (large c) W)):=(Lh fun W=>large_any _ _ _ _ _ _ _ _ W (by omega) (by omega));have RF:=Lh rf;have RB:=Lh rb;have HT:=Lh ht;have HF:=Lh F0;have HB0:=Lh hb0;have c0:=F0.c 0 _ rfl;have c1:=F0.c 1 _ rfl;have c2:=F0.c 2 _ rfl;have c3:=F0.c 3 _ rfl;clear F0 hb0 hv ht rf rb;have e1:=same_nil h2;rw [h1] at NC;have E:=Lh (validE_pre h1 (.inl h2));rw [h4] at LC E;have hs2:c.fs.length≤16∧c.bs.length≤16:=by
  unfold large at h4;simp only [Bool.or_eq_false_iff,decide_eq_false_iff_not] at h4;omega
 clear h1 h2 h4;obtain⟨K,hK⟩:∃ K,c.fs.length=K:=⟨_,rfl⟩;have HK:=Lh hK;rw [hK] at hs2 c0 c1 c2 c3 HF HB0 LC hlf ⊢;clear hK
 go_enter Tryz.func31,Tryz.ntmps31
 go_wp2_with (first
  |(go_at_call 49;((with_reducible refine (NC.out _ HB0.out).mono ?_);rintro e w1 ⟨rfl,hb⟩;have HB1:=Lh (HB0.out.then_ hb);have G:=HF.out.stay hb;(try clear c0);(try clear c1);(try clear c2);(try clear c3);have c0:=G.c 0 _ rfl;have c1:=G.c 1 _ rfl;have c2:=G.c 2 _ rfl;have c3:=G.c 3 _ rfl;have HG1:=Lh G;clear hb G))
  |(go_at_call 50;((with_reducible refine (LC.out _).mono ?_);rintro e w2 ⟨rfl,hb⟩;have HB2:=Lh (HB1.out.then_ hb);have G:=HG1.out.stay hb;(try clear c0);(try clear c1);(try clear c2);(try clear c3);have c0:=G.c 0 _ rfl;have c1:=G.c 1 _ rfl;have c2:=G.c 2 _ rfl;have c3:=G.c 3 _ rfl;have HG2:=Lh G;clear hb G)))
 go_loopw [27] (fun i wr=>∃ j:Nat,j≤K∧i=.int .i64 j∧Hid (∀ x∈(c.fs.map fieldE).take j,x=0)∧Hid (Below w.heap.size w wr)∧Hid (Blk wr w.heap.size [.string c.nm,.string c.par,.slice pf K cf,.slice pb c.bs.length cb])) (fun i _=>K - (intOf i).toNat)
 case atStart=>exact⟨0,Nat.zero_le _,rfl,Lh (by simp),HB2,HG2⟩
 case round =>
  obtain⟨j,hj,rfl,FZ,BW,BK⟩:=hrel
  (try clear c0);(try clear c1);(try clear c2);(try clear c3)
  by_cases hlt:j<K
  ·obtain⟨f,hf⟩:∃ f,c.fs[j]? = some f:=⟨_,List.getElem?_eq_getElem (by rw [HK.out];exact hlt)⟩;obtain⟨b,off,rfl,hb,f0,f1,f2,f3,f4,hsz⟩:=(RF.out.under (BW.out.mono hN)).fd hf;have FN:=Blk.new wr [.string f.nm,.int .i64 f.wd,.int .i64 f.sz,.int .i64 f.md,.int .i64 f.ini] 55;have d0:=FN.c 0 _ rfl;have d1:=FN.c 1 _ rfl;have d2:=FN.c 2 _ rfl;have d3:=FN.c 3 _ rfl;have d4:=FN.c 4 _ rfl;have HBA:Hid (Below w.heap.size w (wr.alloc (.cells #[.string f.nm,.int .i64 f.wd,.int .i64 f.sz,.int .i64 f.md,.int .i64 f.ini] 55))):=Lh (BW.out.alloc BW.out.size _);have BKA:=Lh (BK.out.alloc (.cells #[.string f.nm,.int .i64 f.wd,.int .i64 f.sz,.int .i64 f.md,.int .i64 f.ini] 55));have VC:=Lh (valField_any f.nm f.wd f.sz f.md f.ini (wr.alloc (.cells #[.string f.nm,.int .i64 f.wd,.int .i64 f.sz,.int .i64 f.md,.int .i64 f.ini] 55)) hsz (HT.out.later HBA.out));have HFF:=Lh hf;clear hf FN hb;by_cases hz:fieldE f=0
   ·have FZ2:=Lh (first_next HFF.out FZ.out hz);rw [hz] at VC;clear hz;go_wp2_with (go_at_call 51;((with_reducible refine VC.out.mono ?_);rintro e w9 ⟨rfl,hb9⟩;have HB9:=Lh (HBA.out.then_ hb9);have BK9:=Lh (BKA.out.stay hb9);clear hb9))
    go_roundw
    case rel=>exact⟨j+1,by omega,by go_num,FZ2,HB9,BK9⟩
    case measure=>simp [intOf];omega
   ·have E2:Hid (validE c=fieldE f):=Lh (by have:=first_here HFF.out FZ.out hz;rw [E.out,if_neg (by simp),if_pos (by rw [this];exact hz),this]);have hze:(fieldE f == 0)=false:=(by rw [beq_eq_false_iff_ne];exact hz);have hzn:¬ fieldE f=0:=hz;rw [show (Fld.mk f.nm f.wd f.sz f.md f.ini)=f from rfl] at VC;rw [E2.out];generalize fieldE f=q at *
    clear hz;go_wp2_with (go_at_call 51;((with_reducible refine VC.out.mono ?_);rintro e w9 ⟨rfl,hb9⟩;have HB9:=Lh (HBA.out.then_ hb9);have BK9:=Lh (BKA.out.stay hb9);clear hb9))
    go_ret;exact⟨rfl,HB9.out⟩
  ·have FZ2:Hid (firstE (c.fs.map fieldE)=0):=Lh (by
    rw [firstE_zero];have:=FZ.out;rw [List.take_of_length_le (by rw [List.length_map,HK.out];omega)] at this;exact this)
   have E2:Hid (validE c=if c.bs.any (fun b=>bad b.nm)=true then 7 else if (dupB (c.fs.map Fld.nm)||dupB (c.bs.map Bk.nm))=true then 8 else 0):=Lh (by rw [E.out,if_neg (by simp),if_neg (by rw [FZ2.out];simp)]);have g2:=BK.out.c 2 _ rfl;have g3:=BK.out.c 3 _ rfl;have SZF:=Lh RF.out.fsz;have SZB:=Lh RB.out.bsz;have NB:Hid (∀ W,Below w.heap.size w W→Calls Tryz.prog 52 #[.slice pb c.bs.length cb,.func (.func 53) #[] #[]] W (tStrs (c.bs.map Bk.nm) W)):=(Lh fun W hW=>namesB_any c.bs pb cb Gb N W (RB.out.under (hW.mono hN)) (Nat.le_trans hN hW.size));have NF:Hid (∀ W,Below w.heap.size w W→Calls Tryz.prog 57 #[.slice pf K cf,.func (.func 58) #[] #[]] W (tStrs (c.fs.map Fld.nm) W)):=Lh fun W hW=>by
    have:=namesF_any c.fs pf cf Gf N W (RF.out.under (hW.mono hN)) (Nat.le_trans hN hW.size);rw [HK.out] at this;exact this
   clear E FZ FZ2 LC PC NC;obtain⟨q1,hq1⟩:∃ q,c.bs.any (fun b=>bad b.nm)=q:=⟨_,rfl⟩;obtain⟨q2,hq2⟩:∃ q,dupB (c.fs.map Fld.nm)=q:=⟨_,rfl⟩;obtain⟨q3,hq3⟩:∃ q,dupB (c.bs.map Bk.nm)=q:=⟨_,rfl⟩;have HQ1:Hid ((c.bs.map Bk.nm).any bad=q1):=Lh (by rw [any_map];exact hq1);have HQ2:=Lh hq2;have HQ3:=Lh hq3;rw [hq1,hq2,hq3] at E2;clear hq1 hq2 hq3;cases q1
   case true =>
    have E3:Hid (7=validE c):=Lh (E2.out.trans rfl).symm;clear E2;go_wp2_with (first
     |(go_at_call 52;((with_reducible refine (NB.out _ BW.out).mono ?_);rintro e w5 ⟨v5,rfl,ho5,hb5⟩;obtain⟨p5,c5,G5,rfl,r5⟩:=strs_own ho5 SZB.out (by rw [List.length_map];omega);have R5:=Lh r5;have HB5:=Lh (BW.out.then_ hb5);have BK5:=BK.out.stay hb5;(try clear g2);(try clear g3);have g2:=BK5.c 2 _ rfl;have HK5:=Lh BK5;clear ho5 hb5 r5 BK5))
     |(go_at_call 54;((with_reducible refine (noName_of c.bs Bk.nm p5 c5 G5 w5.heap.size w5 R5.out.toLo (Nat.le_refl _) (HT.out.later HB5.out)).mono ?_);rw [HQ1.out];rintro e w6 ⟨rfl,hb6⟩;have HB6:=Lh (HB5.out.then_ hb6);have R6:=Lh (R5.out.toLo.under hb6);have HS6:=Lh hb6.size;have BK6:=HK5.out.stay hb6;(try clear g2);have g2:=BK6.c 2 _ rfl;clear hb6 BK6)))
    go_ret;exact tInt_mk E3.out HB6.out
   case false =>
    cases q2
    case true =>
     have E3:Hid (8=validE c):=Lh (E2.out.trans rfl).symm;clear E2;go_wp2_with (first
      |(go_at_call 52;((with_reducible refine (NB.out _ BW.out).mono ?_);rintro e w5 ⟨v5,rfl,ho5,hb5⟩;obtain⟨p5,c5,G5,rfl,r5⟩:=strs_own ho5 SZB.out (by rw [List.length_map];omega);have R5:=Lh r5;have HB5:=Lh (BW.out.then_ hb5);have BK5:=BK.out.stay hb5;(try clear g2);(try clear g3);have g2:=BK5.c 2 _ rfl;have HK5:=Lh BK5;clear ho5 hb5 r5 BK5))
      |(go_at_call 54;((with_reducible refine (noName_of c.bs Bk.nm p5 c5 G5 w5.heap.size w5 R5.out.toLo (Nat.le_refl _) (HT.out.later HB5.out)).mono ?_);rw [HQ1.out];rintro e w6 ⟨rfl,hb6⟩;have HB6:=Lh (HB5.out.then_ hb6);have R6:=Lh (R5.out.toLo.under hb6);have HS6:=Lh hb6.size;have BK6:=HK5.out.stay hb6;(try clear g2);have g2:=BK6.c 2 _ rfl;clear hb6 BK6))
      |(go_at_call 57;((with_reducible refine (NF.out _ HB6.out).mono ?_);rintro e w7 ⟨v7,rfl,ho7,hb7⟩;obtain⟨p7,c7,G7,rfl,r7⟩:=strs_own ho7 SZF.out (by rw [List.length_map,HK.out];omega);rw [List.length_map,HK.out];have HB7:=Lh (HB6.out.then_ hb7);have RP7:=Lh (reps_of c.fs Fld.nm p7 c7 G7 w7.heap.size w7 r7.toLo (Nat.le_refl _));rw [HK.out] at RP7;have R67:=Lh (R6.out.under (hb7.mono HS6.out));have HS7:=Lh (Nat.le_trans HS6.out hb7.size);clear ho7 hb7 r7))
      |(go_at_call 56;((with_reducible refine RP7.out.mono ?_);rw [HQ2.out];rintro e w8 ⟨rfl,hb8⟩;have HB8:=Lh (HB7.out.then_ hb8);have R68:=Lh (R67.out.under (hb8.mono HS7.out));have HS8:=Lh (Nat.le_trans HS7.out hb8.size);clear hb8)))
     go_ret;exact tInt_mk E3.out HB8.out
    case false =>
     cases q3
     case true =>
      have E3:Hid (8=validE c):=Lh (E2.out.trans rfl).symm;clear E2;go_wp2_with (first
       |(go_at_call 52;((with_reducible refine (NB.out _ BW.out).mono ?_);rintro e w5 ⟨v5,rfl,ho5,hb5⟩;obtain⟨p5,c5,G5,rfl,r5⟩:=strs_own ho5 SZB.out (by rw [List.length_map];omega);have R5:=Lh r5;have HB5:=Lh (BW.out.then_ hb5);have BK5:=BK.out.stay hb5;(try clear g2);(try clear g3);have g2:=BK5.c 2 _ rfl;have HK5:=Lh BK5;clear ho5 hb5 r5 BK5))
       |(go_at_call 54;((with_reducible refine (noName_of c.bs Bk.nm p5 c5 G5 w5.heap.size w5 R5.out.toLo (Nat.le_refl _) (HT.out.later HB5.out)).mono ?_);rw [HQ1.out];rintro e w6 ⟨rfl,hb6⟩;have HB6:=Lh (HB5.out.then_ hb6);have R6:=Lh (R5.out.toLo.under hb6);have HS6:=Lh hb6.size;have BK6:=HK5.out.stay hb6;(try clear g2);have g2:=BK6.c 2 _ rfl;clear hb6 BK6))
       |(go_at_call 57;((with_reducible refine (NF.out _ HB6.out).mono ?_);rintro e w7 ⟨v7,rfl,ho7,hb7⟩;obtain⟨p7,c7,G7,rfl,r7⟩:=strs_own ho7 SZF.out (by rw [List.length_map,HK.out];omega);rw [List.length_map,HK.out];have HB7:=Lh (HB6.out.then_ hb7);have RP7:=Lh (reps_of c.fs Fld.nm p7 c7 G7 w7.heap.size w7 r7.toLo (Nat.le_refl _));rw [HK.out] at RP7;have R67:=Lh (R6.out.under (hb7.mono HS6.out));have HS7:=Lh (Nat.le_trans HS6.out hb7.size);clear ho7 hb7 r7))
       |(go_at_call 56;((with_reducible refine RP7.out.mono ?_);rw [HQ2.out];rintro e w8 ⟨rfl,hb8⟩;have HB8:=Lh (HB7.out.then_ hb8);have R68:=Lh (R67.out.under (hb8.mono HS7.out));have HS8:=Lh (Nat.le_trans HS7.out hb8.size);clear hb8))
       |(go_at_call 56;((with_reducible refine (reps_of c.bs Bk.nm p5 c5 G5 w5.heap.size w8 R68.out HS8.out).mono ?_);rw [HQ3.out];rintro e w9 ⟨rfl,hb9⟩;have HB9:=Lh (HB8.out.then_ hb9);clear hb9)))
      go_ret;exact tInt_mk E3.out HB9.out
     case false =>
      have E3:Hid (0=validE c):=Lh (E2.out.trans rfl).symm;clear E2;go_wp2_with (first
       |(go_at_call 52;((with_reducible refine (NB.out _ BW.out).mono ?_);rintro e w5 ⟨v5,rfl,ho5,hb5⟩;obtain⟨p5,c5,G5,rfl,r5⟩:=strs_own ho5 SZB.out (by rw [List.length_map];omega);have R5:=Lh r5;have HB5:=Lh (BW.out.then_ hb5);have BK5:=BK.out.stay hb5;(try clear g2);(try clear g3);have g2:=BK5.c 2 _ rfl;have HK5:=Lh BK5;clear ho5 hb5 r5 BK5))
       |(go_at_call 54;((with_reducible refine (noName_of c.bs Bk.nm p5 c5 G5 w5.heap.size w5 R5.out.toLo (Nat.le_refl _) (HT.out.later HB5.out)).mono ?_);rw [HQ1.out];rintro e w6 ⟨rfl,hb6⟩;have HB6:=Lh (HB5.out.then_ hb6);have R6:=Lh (R5.out.toLo.under hb6);have HS6:=Lh hb6.size;have BK6:=HK5.out.stay hb6;(try clear g2);have g2:=BK6.c 2 _ rfl;clear hb6 BK6))
       |(go_at_call 57;((with_reducible refine (NF.out _ HB6.out).mono ?_);rintro e w7 ⟨v7,rfl,ho7,hb7⟩;obtain⟨p7,c7,G7,rfl,r7⟩:=strs_own ho7 SZF.out (by rw [List.length_map,HK.out];omega);rw [List.length_map,HK.out];have HB7:=Lh (HB6.out.then_ hb7);have RP7:=Lh (reps_of c.fs Fld.nm p7 c7 G7 w7.heap.size w7 r7.toLo (Nat.le_refl _));rw [HK.out] at RP7;have R67:=Lh (R6.out.under (hb7.mono HS6.out));have HS7:=Lh (Nat.le_trans HS6.out hb7.size);clear ho7 hb7 r7))
       |(go_at_call 56;((with_reducible refine RP7.out.mono ?_);rw [HQ2.out];rintro e w8 ⟨rfl,hb8⟩;have HB8:=Lh (HB7.out.then_ hb8);have R68:=Lh (R67.out.under (hb8.mono HS7.out));have HS8:=Lh (Nat.le_trans HS7.out hb8.size);clear hb8))
       |(go_at_call 56;((with_reducible refine (reps_of c.bs Bk.nm p5 c5 G5 w5.heap.size w8 R68.out HS8.out).mono ?_);rw [HQ3.out];rintro e w9 ⟨rfl,hb9⟩;have HB9:=Lh (HB8.out.then_ hb9);clear hb9)))
      go_ret;exact tInt_mk E3.out HB9.out
theorem valid_31 (c:Cl) (pf:Option Addr) (cf:Nat) (pb:Option Addr) (cb N:Nat) (w:World) (hv:CV (Lo N) w pf cf pb cb c) (ht:Tab w) (h1:bad c.nm=false) (h2:same c.par emp=false) (h3:bad c.par=false) (h4:large c=true) :
  Calls Tryz.prog 31 #[cv c.nm c.par (.slice pf c.fs.length cf) (.slice pb c.bs.length cb)] w (tInt 2 w):=by
 have F0:=Blk.new w [.string c.nm,.string c.par,.slice pf c.fs.length cf,.slice pb c.bs.length cb] 32;have hb0:=ba w (.cells #[.string c.nm,.string c.par,.slice pf c.fs.length cf,.slice pb c.bs.length cb] 32);have NC:Hid (∀ W,Below w.heap.size w W→Calls Tryz.prog 49 #[.string c.nm] W (tBool (!bad c.nm) W)):=(Lh fun W hW=>isNm_any c.nm W hv.nm (ht.later hW));have PC:Hid (∀ W,Below w.heap.size w W→Calls Tryz.prog 49 #[.string c.par] W (tBool (!bad c.par) W)):=(Lh fun W hW=>isNm_any c.par W hv.par (ht.later hW));obtain⟨_,_,Gf,ef,rf⟩:=hv.fs.rowOf;rw [List.length_map] at ef;cases ef;obtain⟨_,_,Gb,eb,rb⟩:=hv.bs.rowOf;rw [List.length_map] at eb;cases eb;have hlf:=rf.hl;have hlb:=rb.hl;rw [List.length_map] at hlf hlb;simp only [byt] at hlf hlb;have LC:Hid (∀ W,Calls Tryz.prog 50 #[cv c.nm c.par (.slice pf c.fs.length cf) (.slice pb c.bs.length cb)] W (tBool (large c) W)):=(Lh fun W=>large_any _ _ _ _ _ _ _ _ W (by omega) (by omega));have RF:=Lh rf;have RB:=Lh rb;have HT:=Lh ht;have HF:=Lh F0;have HB0:=Lh hb0;have c0:=F0.c 0 _ rfl;have c1:=F0.c 1 _ rfl;have c2:=F0.c 2 _ rfl;have c3:=F0.c 3 _ rfl;clear F0 hb0 hv ht rf rb;have e1:=same_nil h2;rw [h1] at NC;rw [h3] at PC;rw [h4] at LC;clear h1 h2 h3 h4
 go_enter Tryz.func31,Tryz.ntmps31
 go_wp2_with (first
  |(go_at_call 49;((with_reducible refine (NC.out _ HB0.out).mono ?_);rintro e w1 ⟨rfl,hb⟩;have HB1:=Lh (HB0.out.then_ hb);have G:=HF.out.stay hb;(try clear c0);(try clear c1);(try clear c2);(try clear c3);have c0:=G.c 0 _ rfl;have c1:=G.c 1 _ rfl;have c2:=G.c 2 _ rfl;have c3:=G.c 3 _ rfl;have HG1:=Lh G;clear hb G))
  |(go_at_call 49;((with_reducible refine (PC.out _ HB1.out).mono ?_);rintro e w2 ⟨rfl,hb⟩;have HB2:=Lh (HB1.out.then_ hb);have G:=HG1.out.stay hb;(try clear c0);(try clear c1);(try clear c2);(try clear c3);have c0:=G.c 0 _ rfl;have c1:=G.c 1 _ rfl;have c2:=G.c 2 _ rfl;have c3:=G.c 3 _ rfl;have HG2:=Lh G;clear hb G))
  |(go_at_call 50;((with_reducible refine (LC.out _).mono ?_);rintro e w3 ⟨rfl,hb⟩;have HB3:=Lh (HB2.out.then_ hb);have G:=HG2.out.stay hb;(try clear c0);(try clear c1);(try clear c2);(try clear c3);have c0:=G.c 0 _ rfl;have c1:=G.c 1 _ rfl;have c2:=G.c 2 _ rfl;have c3:=G.c 3 _ rfl;have HG3:=Lh G;clear hb G)))
 go_ret;exact⟨rfl,HB3.out⟩
theorem valid_41 (c:Cl) (pf:Option Addr) (cf:Nat) (pb:Option Addr) (cb N:Nat) (w:World) (hv:CV (Lo N) w pf cf pb cb c) (hN:N≤w.heap.size) (ht:Tab w) (h1:bad c.nm=false) (h2:same c.par emp=false) (h3:bad c.par=false) (h4:large c=false) :
  Calls Tryz.prog 31 #[cv c.nm c.par (.slice pf c.fs.length cf) (.slice pb c.bs.length cb)] w (tInt (validE c) w):=by
 have F0:=Blk.new w [.string c.nm,.string c.par,.slice pf c.fs.length cf,.slice pb c.bs.length cb] 32;have hb0:=ba w (.cells #[.string c.nm,.string c.par,.slice pf c.fs.length cf,.slice pb c.bs.length cb] 32);have NC:Hid (∀ W,Below w.heap.size w W→Calls Tryz.prog 49 #[.string c.nm] W (tBool (!bad c.nm) W)):=(Lh fun W hW=>isNm_any c.nm W hv.nm (ht.later hW));have PC:Hid (∀ W,Below w.heap.size w W→Calls Tryz.prog 49 #[.string c.par] W (tBool (!bad c.par) W)):=(Lh fun W hW=>isNm_any c.par W hv.par (ht.later hW));obtain⟨_,_,Gf,ef,rf⟩:=hv.fs.rowOf;rw [List.length_map] at ef;cases ef;obtain⟨_,_,Gb,eb,rb⟩:=hv.bs.rowOf;rw [List.length_map] at eb;cases eb;have hlf:=rf.hl;have hlb:=rb.hl;rw [List.length_map] at hlf hlb;simp only [byt] at hlf hlb;have LC:Hid (∀ W,Calls Tryz.prog 50 #[cv c.nm c.par (.slice pf c.fs.length cf) (.slice pb c.bs.length cb)] W (tBool (large c) W)):=(Lh fun W=>large_any _ _ _ _ _ _ _ _ W (by omega) (by omega));have RF:=Lh rf;have RB:=Lh rb;have HT:=Lh ht;have HF:=Lh F0;have HB0:=Lh hb0;have c0:=F0.c 0 _ rfl;have c1:=F0.c 1 _ rfl;have c2:=F0.c 2 _ rfl;have c3:=F0.c 3 _ rfl;clear F0 hb0 hv ht rf rb;have e1:=same_nil h2;rw [h1] at NC;rw [h3] at PC;have E:=Lh (validE_pre h1 (.inr h3));rw [h4] at LC E;have hs2:c.fs.length≤16∧c.bs.length≤16:=by
  unfold large at h4;simp only [Bool.or_eq_false_iff,decide_eq_false_iff_not] at h4;omega
 clear h1 h2 h3 h4;obtain⟨K,hK⟩:∃ K,c.fs.length=K:=⟨_,rfl⟩;have HK:=Lh hK;rw [hK] at hs2 c0 c1 c2 c3 HF HB0 LC hlf ⊢;clear hK
 go_enter Tryz.func31,Tryz.ntmps31
 go_wp2_with (first
  |(go_at_call 49;((with_reducible refine (NC.out _ HB0.out).mono ?_);rintro e w1 ⟨rfl,hb⟩;have HB1:=Lh (HB0.out.then_ hb);have G:=HF.out.stay hb;(try clear c0);(try clear c1);(try clear c2);(try clear c3);have c0:=G.c 0 _ rfl;have c1:=G.c 1 _ rfl;have c2:=G.c 2 _ rfl;have c3:=G.c 3 _ rfl;have HG1:=Lh G;clear hb G))
  |(go_at_call 49;((with_reducible refine (PC.out _ HB1.out).mono ?_);rintro e w2 ⟨rfl,hb⟩;have HB2:=Lh (HB1.out.then_ hb);have G:=HG1.out.stay hb;(try clear c0);(try clear c1);(try clear c2);(try clear c3);have c0:=G.c 0 _ rfl;have c1:=G.c 1 _ rfl;have c2:=G.c 2 _ rfl;have c3:=G.c 3 _ rfl;have HG2:=Lh G;clear hb G))
  |(go_at_call 50;((with_reducible refine (LC.out _).mono ?_);rintro e w3 ⟨rfl,hb⟩;have HB3:=Lh (HB2.out.then_ hb);have G:=HG2.out.stay hb;(try clear c0);(try clear c1);(try clear c2);(try clear c3);have c0:=G.c 0 _ rfl;have c1:=G.c 1 _ rfl;have c2:=G.c 2 _ rfl;have c3:=G.c 3 _ rfl;have HG3:=Lh G;clear hb G)))
 go_loopw [27] (fun i wr=>∃ j:Nat,j≤K∧i=.int .i64 j∧Hid (∀ x∈(c.fs.map fieldE).take j,x=0)∧Hid (Below w.heap.size w wr)∧Hid (Blk wr w.heap.size [.string c.nm,.string c.par,.slice pf K cf,.slice pb c.bs.length cb])) (fun i _=>K - (intOf i).toNat)
 case atStart=>exact⟨0,Nat.zero_le _,rfl,Lh (by simp),HB3,HG3⟩
 case round =>
  obtain⟨j,hj,rfl,FZ,BW,BK⟩:=hrel
  (try clear c0);(try clear c1);(try clear c2);(try clear c3)
  by_cases hlt:j<K
  ·obtain⟨f,hf⟩:∃ f,c.fs[j]? = some f:=⟨_,List.getElem?_eq_getElem (by rw [HK.out];exact hlt)⟩;obtain⟨b,off,rfl,hb,f0,f1,f2,f3,f4,hsz⟩:=(RF.out.under (BW.out.mono hN)).fd hf;have FN:=Blk.new wr [.string f.nm,.int .i64 f.wd,.int .i64 f.sz,.int .i64 f.md,.int .i64 f.ini] 55;have d0:=FN.c 0 _ rfl;have d1:=FN.c 1 _ rfl;have d2:=FN.c 2 _ rfl;have d3:=FN.c 3 _ rfl;have d4:=FN.c 4 _ rfl;have HBA:Hid (Below w.heap.size w (wr.alloc (.cells #[.string f.nm,.int .i64 f.wd,.int .i64 f.sz,.int .i64 f.md,.int .i64 f.ini] 55))):=Lh (BW.out.alloc BW.out.size _);have BKA:=Lh (BK.out.alloc (.cells #[.string f.nm,.int .i64 f.wd,.int .i64 f.sz,.int .i64 f.md,.int .i64 f.ini] 55));have VC:=Lh (valField_any f.nm f.wd f.sz f.md f.ini (wr.alloc (.cells #[.string f.nm,.int .i64 f.wd,.int .i64 f.sz,.int .i64 f.md,.int .i64 f.ini] 55)) hsz (HT.out.later HBA.out));have HFF:=Lh hf;clear hf FN hb;by_cases hz:fieldE f=0
   ·have FZ2:=Lh (first_next HFF.out FZ.out hz);rw [hz] at VC;clear hz;go_wp2_with (go_at_call 51;((with_reducible refine VC.out.mono ?_);rintro e w9 ⟨rfl,hb9⟩;have HB9:=Lh (HBA.out.then_ hb9);have BK9:=Lh (BKA.out.stay hb9);clear hb9))
    go_roundw
    case rel=>exact⟨j+1,by omega,by go_num,FZ2,HB9,BK9⟩
    case measure=>simp [intOf];omega
   ·have E2:Hid (validE c=fieldE f):=Lh (by have:=first_here HFF.out FZ.out hz;rw [E.out,if_neg (by simp),if_pos (by rw [this];exact hz),this]);have hze:(fieldE f == 0)=false:=(by rw [beq_eq_false_iff_ne];exact hz);have hzn:¬ fieldE f=0:=hz;rw [show (Fld.mk f.nm f.wd f.sz f.md f.ini)=f from rfl] at VC;rw [E2.out];generalize fieldE f=q at *
    clear hz;go_wp2_with (go_at_call 51;((with_reducible refine VC.out.mono ?_);rintro e w9 ⟨rfl,hb9⟩;have HB9:=Lh (HBA.out.then_ hb9);have BK9:=Lh (BKA.out.stay hb9);clear hb9))
    go_ret;exact⟨rfl,HB9.out⟩
  ·have FZ2:Hid (firstE (c.fs.map fieldE)=0):=Lh (by
    rw [firstE_zero];have:=FZ.out;rw [List.take_of_length_le (by rw [List.length_map,HK.out];omega)] at this;exact this)
   have E2:Hid (validE c=if c.bs.any (fun b=>bad b.nm)=true then 7 else if (dupB (c.fs.map Fld.nm)||dupB (c.bs.map Bk.nm))=true then 8 else 0):=Lh (by rw [E.out,if_neg (by simp),if_neg (by rw [FZ2.out];simp)]);have g2:=BK.out.c 2 _ rfl;have g3:=BK.out.c 3 _ rfl;have SZF:=Lh RF.out.fsz;have SZB:=Lh RB.out.bsz;have NB:Hid (∀ W,Below w.heap.size w W→Calls Tryz.prog 52 #[.slice pb c.bs.length cb,.func (.func 53) #[] #[]] W (tStrs (c.bs.map Bk.nm) W)):=(Lh fun W hW=>namesB_any c.bs pb cb Gb N W (RB.out.under (hW.mono hN)) (Nat.le_trans hN hW.size));have NF:Hid (∀ W,Below w.heap.size w W→Calls Tryz.prog 57 #[.slice pf K cf,.func (.func 58) #[] #[]] W (tStrs (c.fs.map Fld.nm) W)):=Lh fun W hW=>by
    have:=namesF_any c.fs pf cf Gf N W (RF.out.under (hW.mono hN)) (Nat.le_trans hN hW.size);rw [HK.out] at this;exact this
   clear E FZ FZ2 LC PC NC;obtain⟨q1,hq1⟩:∃ q,c.bs.any (fun b=>bad b.nm)=q:=⟨_,rfl⟩;obtain⟨q2,hq2⟩:∃ q,dupB (c.fs.map Fld.nm)=q:=⟨_,rfl⟩;obtain⟨q3,hq3⟩:∃ q,dupB (c.bs.map Bk.nm)=q:=⟨_,rfl⟩;have HQ1:Hid ((c.bs.map Bk.nm).any bad=q1):=Lh (by rw [any_map];exact hq1);have HQ2:=Lh hq2;have HQ3:=Lh hq3;rw [hq1,hq2,hq3] at E2;clear hq1 hq2 hq3;cases q1
   case true =>
    have E3:Hid (7=validE c):=Lh (E2.out.trans rfl).symm;clear E2;go_wp2_with (first
     |(go_at_call 52;((with_reducible refine (NB.out _ BW.out).mono ?_);rintro e w5 ⟨v5,rfl,ho5,hb5⟩;obtain⟨p5,c5,G5,rfl,r5⟩:=strs_own ho5 SZB.out (by rw [List.length_map];omega);have R5:=Lh r5;have HB5:=Lh (BW.out.then_ hb5);have BK5:=BK.out.stay hb5;(try clear g2);(try clear g3);have g2:=BK5.c 2 _ rfl;have HK5:=Lh BK5;clear ho5 hb5 r5 BK5))
     |(go_at_call 54;((with_reducible refine (noName_of c.bs Bk.nm p5 c5 G5 w5.heap.size w5 R5.out.toLo (Nat.le_refl _) (HT.out.later HB5.out)).mono ?_);rw [HQ1.out];rintro e w6 ⟨rfl,hb6⟩;have HB6:=Lh (HB5.out.then_ hb6);have R6:=Lh (R5.out.toLo.under hb6);have HS6:=Lh hb6.size;have BK6:=HK5.out.stay hb6;(try clear g2);have g2:=BK6.c 2 _ rfl;clear hb6 BK6)))
    go_ret;exact tInt_mk E3.out HB6.out
   case false =>
    cases q2
    case true =>
     have E3:Hid (8=validE c):=Lh (E2.out.trans rfl).symm;clear E2;go_wp2_with (first
      |(go_at_call 52;((with_reducible refine (NB.out _ BW.out).mono ?_);rintro e w5 ⟨v5,rfl,ho5,hb5⟩;obtain⟨p5,c5,G5,rfl,r5⟩:=strs_own ho5 SZB.out (by rw [List.length_map];omega);have R5:=Lh r5;have HB5:=Lh (BW.out.then_ hb5);have BK5:=BK.out.stay hb5;(try clear g2);(try clear g3);have g2:=BK5.c 2 _ rfl;have HK5:=Lh BK5;clear ho5 hb5 r5 BK5))
      |(go_at_call 54;((with_reducible refine (noName_of c.bs Bk.nm p5 c5 G5 w5.heap.size w5 R5.out.toLo (Nat.le_refl _) (HT.out.later HB5.out)).mono ?_);rw [HQ1.out];rintro e w6 ⟨rfl,hb6⟩;have HB6:=Lh (HB5.out.then_ hb6);have R6:=Lh (R5.out.toLo.under hb6);have HS6:=Lh hb6.size;have BK6:=HK5.out.stay hb6;(try clear g2);have g2:=BK6.c 2 _ rfl;clear hb6 BK6))
      |(go_at_call 57;((with_reducible refine (NF.out _ HB6.out).mono ?_);rintro e w7 ⟨v7,rfl,ho7,hb7⟩;obtain⟨p7,c7,G7,rfl,r7⟩:=strs_own ho7 SZF.out (by rw [List.length_map,HK.out];omega);rw [List.length_map,HK.out];have HB7:=Lh (HB6.out.then_ hb7);have RP7:=Lh (reps_of c.fs Fld.nm p7 c7 G7 w7.heap.size w7 r7.toLo (Nat.le_refl _));rw [HK.out] at RP7;have R67:=Lh (R6.out.under (hb7.mono HS6.out));have HS7:=Lh (Nat.le_trans HS6.out hb7.size);clear ho7 hb7 r7))
      |(go_at_call 56;((with_reducible refine RP7.out.mono ?_);rw [HQ2.out];rintro e w8 ⟨rfl,hb8⟩;have HB8:=Lh (HB7.out.then_ hb8);have R68:=Lh (R67.out.under (hb8.mono HS7.out));have HS8:=Lh (Nat.le_trans HS7.out hb8.size);clear hb8)))
     go_ret;exact tInt_mk E3.out HB8.out
    case false =>
     cases q3
     case true =>
      have E3:Hid (8=validE c):=Lh (E2.out.trans rfl).symm;clear E2;go_wp2_with (first
       |(go_at_call 52;((with_reducible refine (NB.out _ BW.out).mono ?_);rintro e w5 ⟨v5,rfl,ho5,hb5⟩;obtain⟨p5,c5,G5,rfl,r5⟩:=strs_own ho5 SZB.out (by rw [List.length_map];omega);have R5:=Lh r5;have HB5:=Lh (BW.out.then_ hb5);have BK5:=BK.out.stay hb5;(try clear g2);(try clear g3);have g2:=BK5.c 2 _ rfl;have HK5:=Lh BK5;clear ho5 hb5 r5 BK5))
       |(go_at_call 54;((with_reducible refine (noName_of c.bs Bk.nm p5 c5 G5 w5.heap.size w5 R5.out.toLo (Nat.le_refl _) (HT.out.later HB5.out)).mono ?_);rw [HQ1.out];rintro e w6 ⟨rfl,hb6⟩;have HB6:=Lh (HB5.out.then_ hb6);have R6:=Lh (R5.out.toLo.under hb6);have HS6:=Lh hb6.size;have BK6:=HK5.out.stay hb6;(try clear g2);have g2:=BK6.c 2 _ rfl;clear hb6 BK6))
       |(go_at_call 57;((with_reducible refine (NF.out _ HB6.out).mono ?_);rintro e w7 ⟨v7,rfl,ho7,hb7⟩;obtain⟨p7,c7,G7,rfl,r7⟩:=strs_own ho7 SZF.out (by rw [List.length_map,HK.out];omega);rw [List.length_map,HK.out];have HB7:=Lh (HB6.out.then_ hb7);have RP7:=Lh (reps_of c.fs Fld.nm p7 c7 G7 w7.heap.size w7 r7.toLo (Nat.le_refl _));rw [HK.out] at RP7;have R67:=Lh (R6.out.under (hb7.mono HS6.out));have HS7:=Lh (Nat.le_trans HS6.out hb7.size);clear ho7 hb7 r7))
       |(go_at_call 56;((with_reducible refine RP7.out.mono ?_);rw [HQ2.out];rintro e w8 ⟨rfl,hb8⟩;have HB8:=Lh (HB7.out.then_ hb8);have R68:=Lh (R67.out.under (hb8.mono HS7.out));have HS8:=Lh (Nat.le_trans HS7.out hb8.size);clear hb8))
       |(go_at_call 56;((with_reducible refine (reps_of c.bs Bk.nm p5 c5 G5 w5.heap.size w8 R68.out HS8.out).mono ?_);rw [HQ3.out];rintro e w9 ⟨rfl,hb9⟩;have HB9:=Lh (HB8.out.then_ hb9);clear hb9)))
      go_ret;exact tInt_mk E3.out HB9.out
     case false =>
      have E3:Hid (0=validE c):=Lh (E2.out.trans rfl).symm;clear E2;go_wp2_with (first
       |(go_at_call 52;((with_reducible refine (NB.out _ BW.out).mono ?_);rintro e w5 ⟨v5,rfl,ho5,hb5⟩;obtain⟨p5,c5,G5,rfl,r5⟩:=strs_own ho5 SZB.out (by rw [List.length_map];omega);have R5:=Lh r5;have HB5:=Lh (BW.out.then_ hb5);have BK5:=BK.out.stay hb5;(try clear g2);(try clear g3);have g2:=BK5.c 2 _ rfl;have HK5:=Lh BK5;clear ho5 hb5 r5 BK5))
       |(go_at_call 54;((with_reducible refine (noName_of c.bs Bk.nm p5 c5 G5 w5.heap.size w5 R5.out.toLo (Nat.le_refl _) (HT.out.later HB5.out)).mono ?_);rw [HQ1.out];rintro e w6 ⟨rfl,hb6⟩;have HB6:=Lh (HB5.out.then_ hb6);have R6:=Lh (R5.out.toLo.under hb6);have HS6:=Lh hb6.size;have BK6:=HK5.out.stay hb6;(try clear g2);have g2:=BK6.c 2 _ rfl;clear hb6 BK6))
       |(go_at_call 57;((with_reducible refine (NF.out _ HB6.out).mono ?_);rintro e w7 ⟨v7,rfl,ho7,hb7⟩;obtain⟨p7,c7,G7,rfl,r7⟩:=strs_own ho7 SZF.out (by rw [List.length_map,HK.out];omega);rw [List.length_map,HK.out];have HB7:=Lh (HB6.out.then_ hb7);have RP7:=Lh (reps_of c.fs Fld.nm p7 c7 G7 w7.heap.size w7 r7.toLo (Nat.le_refl _));rw [HK.out] at RP7;have R67:=Lh (R6.out.under (hb7.mono HS6.out));have HS7:=Lh (Nat.le_trans HS6.out hb7.size);clear ho7 hb7 r7))
       |(go_at_call 56;((with_reducible refine RP7.out.mono ?_);rw [HQ2.out];rintro e w8 ⟨rfl,hb8⟩;have HB8:=Lh (HB7.out.then_ hb8);have R68:=Lh (R67.out.under (hb8.mono HS7.out));have HS8:=Lh (Nat.le_trans HS7.out hb8.size);clear hb8))
       |(go_at_call 56;((with_reducible refine (reps_of c.bs Bk.nm p5 c5 G5 w5.heap.size w8 R68.out HS8.out).mono ?_);rw [HQ3.out];rintro e w9 ⟨rfl,hb9⟩;have HB9:=Lh (HB8.out.then_ hb9);clear hb9)))
      go_ret;exact tInt_mk E3.out HB9.out
theorem valid_any (c:Cl) (pf:Option Addr) (cf:Nat) (pb:Option Addr) (cb N:Nat) (w:World) (hv:CV (Lo N) w pf cf pb cb c) (hN:N≤w.heap.size) (ht:Tab w) :
  Calls Tryz.prog 31 #[cv c.nm c.par (.slice pf c.fs.length cf) (.slice pb c.bs.length cb)] w (tInt (validE c) w):=by
 cases h1:bad c.nm
 ·cases h2:same c.par emp
  ·cases h3:bad c.par
   ·cases h4:large c
    ·exact valid_41 c pf cf pb cb N w hv hN ht h1 h2 h3 h4
    ·rw [validE_pre h1 (.inr h3),if_pos h4];exact valid_31 c pf cf pb cb N w hv ht h1 h2 h3 h4
   ·rw [validE_2 h2 h3];exact valid_2 c pf cf pb cb N w hv ht h1 h2 h3
  ·cases h4:large c
   ·exact valid_40 c pf cf pb cb N w hv hN ht h1 h2 h4
   ·rw [validE_pre h1 (.inl h2),if_pos h4];exact valid_30 c pf cf pb cb N w hv ht h1 h2 h4
 ·rw [validE_1 h1];exact valid_1 c pf cf pb cb N w hv ht h1
end ClW
end Go.Proofs.YtihnejaopejbgaaGreatDoor
