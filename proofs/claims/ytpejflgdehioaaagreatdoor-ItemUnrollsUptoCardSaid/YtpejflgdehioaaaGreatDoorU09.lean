/-
  Laws that the card uses; no conditions beside those that each states (ItIdx ClMem ClLaid ExLaid ExOpen).
-/
import Derived.Test.YtpejflgdehioaaaGreatDoorCards
import Derived.Test.YtpejflgdehioaaaGreatDoorTie
import Derived.ProofKit
import Derived.LaidMore
import Derived.OpenShut
import Derived.Stop.Joined
import Derived.Stop.LaidErr
import Derived.SizedLaws
import Derived.Carry
import Derived.Deep.DeepHandedRow
import Derived.Deep.DeepWitnessRowRef
import Derived.Deep.Slices
import Derived.Test.YtpejflgdehioaaaGreatDoorU04
import Derived.Test.YtpejflgdehioaaaGreatDoorU05
set_option maxRecDepth 100000
set_option maxHeartbeats 16000000
namespace Go.Proofs.YtpejflgdehioaaaGreatDoor
namespace ItW
open Go Go.RowKit NumM LexW LexM ExM ExW ItM
theorem any_next {α:Type} {l:List α} {q:α→Bool} {j:Nat} {c:α} (h:l[j]? = some c) (hq:q c=false) (hp:(l.take j).any q=false):(l.take (j+1)).any q=false:=by
 obtain⟨hj,he⟩:=List.getElem?_eq_some_iff.1 h;rw [List.take_succ_eq_append_getElem hj,List.any_append,hp,he];simp [hq]
theorem any_at {α:Type} {l:List α} {q:α→Bool} {j:Nat} {c:α} (h:l[j]? = some c) (hq:q c=true):l.any q=true:=List.any_eq_true.2 ⟨c,List.mem_of_getElem? h,hq⟩
theorem noVar_ix (l:List ByteArray) (q:ByteArray→Bool) (v:Value) (N:Nat) (w:World) (ha:StA N w v l) (hN:N≤w.heap.size) (hq:∀ s∈l,∀ W,Below w.heap.size w W→s.size≤140737488351232→Calls Tryz.prog 117 #[.string s] W (tBool (q s) W)) :
  Calls Tryz.prog 126 #[v,.func (.func 117) #[] #[]] w fun e w'=>∃ r:Int,e=.returned (.int .i64 r)∧(-1≤r∧r≤140737488351232)∧decide (0≤r)=l.any q∧Below w.heap.size w w':=by
 obtain⟨p,cap,rfl,hl,hc0,hz,hp⟩:=ha;have HP:=Lh hp;have HZ:=Lh hz;clear hp hz;have HQ:=Lh hq;obtain⟨K,hK⟩:∃ K,l.length=K:=⟨_,rfl⟩;have HK:=Lh hK;rw [hK] at hl ⊢;have hk:K≤140737488351232:=(by omega);clear hK hl hq;have HB0:=Lh (Below.refl w.heap.size w)
 go_enter Tryz.func126,Tryz.ntmps126
 go_wp2;go_loopw [8] (fun i wr=>∃ j:Nat,j≤K∧i=.int .i64 j∧Hid ((l.take j).any q=false)∧Hid (Below w.heap.size w wr)) (fun i _=>K - (intOf i).toNat)
 case atStart=>exact⟨0,Nat.zero_le _,rfl,Lh rfl,HB0⟩
 case round =>
  obtain⟨j,hj,rfl,FN,BW⟩:=hrel;by_cases hlt:j<K
  ·obtain⟨c,hc⟩:∃ c,l[j]? = some c:=⟨_,List.getElem?_eq_getElem (by rw [HK.out];exact hlt)⟩;have hbw:Below N w wr:=BW.out.mono hN;obtain⟨b,off,rfl,hb,hcell⟩:=HP.out (by rw [HK.out];omega);have c0:=low_cells hbw _ _ hb _ (hcell j c hc);have CC:=Lh (HQ.out c (List.mem_of_getElem? hc) wr BW.out (HZ.out c (List.mem_of_getElem? hc)));clear hcell;have HC:=Lh hc;clear hc hbw;cases hs:q c
   ·have FN2:=Lh (any_next HC.out hs FN.out);rw [hs] at CC;clear hs;go_wp2_with (go_at_call 117;((with_reducible refine CC.out.mono ?_);rintro e w1 ⟨rfl,hb1⟩;have HB1:=Lh (BW.out.then_ hb1);clear hb1))
    go_roundw
    case rel=>exact⟨j+1,by omega,by go_num,FN2,HB1⟩
    case measure=>simp [intOf];omega
   ·have FS:=Lh (any_at HC.out hs);rw [hs] at CC;clear hs;go_wp2_with (go_at_call 117;((with_reducible refine CC.out.mono ?_);rintro e w1 ⟨rfl,hb1⟩;have HB1:=Lh (BW.out.then_ hb1);clear hb1))
    go_ret;exact⟨_,rfl,by omega,by rw [FS.out];exact decide_eq_true (by omega),HB1.out⟩
  ·have FN2:Hid (l.any q=false):=Lh (by have:=FN.out;rw [List.take_of_length_le (by rw [HK.out];omega)] at this;exact this);go_wp2;go_ret;exact⟨_,rfl,by omega,by rw [FN2.out];rfl,BW.out⟩
theorem noVar_has (l:List ByteArray) (q:ByteArray→Bool) (v:Value) (N:Nat) (w:World) (ha:StA N w v l) (hN:N≤w.heap.size) (hq:∀ s∈l,∀ W,Below w.heap.size w W→s.size≤140737488351232→Calls Tryz.prog 117 #[.string s] W (tBool (q s) W)) :
  Calls Tryz.prog 82 #[v,.func (.func 117) #[] #[]] w (tBool (l.any q) w):=by
 have IC:=Lh (noVar_ix l q v N w ha hN hq);have hcc:∃ p cap,v=.slice p l.length cap:=(by obtain⟨p,cap,e,_⟩:=ha;exact⟨p,cap,e⟩);obtain⟨p,cap,rfl⟩:=hcc;clear ha hq;generalize l.any q=c at *
 generalize l.length=K at *
 cases c
 ·go_enter Tryz.func82,Tryz.ntmps82
  go_wp2_with (go_at_call 126;((with_reducible refine IC.out.mono ?_);rintro e w1 ⟨r,rfl,⟨hr0,hr1⟩,hr,hb⟩;have HB:=Lh hb;clear hb))
  go_ret;exact⟨rfl,HB.out⟩
 ·go_enter Tryz.func82,Tryz.ntmps82
  go_wp2_with (go_at_call 126;((with_reducible refine IC.out.mono ?_);rintro e w1 ⟨r,rfl,⟨hr0,hr1⟩,hr,hb⟩;have HB:=Lh hb;clear hb))
  go_ret;exact⟨rfl,HB.out⟩
theorem wrong_ix (l:List Wt) (q:Wt→Bool) (v:Value) (N:Nat) (w:World) (ha:WtA N w v l) (hN:N≤w.heap.size) (hq:∀ t∈l,∀ W,Below w.heap.size w W→Calls Tryz.prog 116 #[.agg #[.int .i64 t.lo,.int .i64 t.hi,.int .i64 t.wt,.bool t.ea]] W (tBool (q t) W)) :
  Calls Tryz.prog 164 #[v,.func (.func 116) #[] #[]] w fun e w'=>∃ r:Int,e=.returned (.int .i64 r)∧(-1≤r∧r≤140737488351232)∧decide (0≤r)=l.any q∧Below w.heap.size w w':=by
 obtain⟨p,cap,rfl,hl,hc0,hp⟩:=ha;have HP:=Lh hp;clear hp;have HQ:=Lh hq;obtain⟨K,hK⟩:∃ K,l.length=K:=⟨_,rfl⟩;have HK:=Lh hK;rw [hK] at hl ⊢;have hk:K≤140737488351232:=(by omega);clear hK hl hq;have HB0:=Lh (Below.refl w.heap.size w)
 go_enter Tryz.func164,Tryz.ntmps164
 go_wp2;go_loopw [8] (fun i wr=>∃ j:Nat,j≤K∧i=.int .i64 j∧Hid ((l.take j).any q=false)∧Hid (Below w.heap.size w wr)) (fun i _=>K - (intOf i).toNat)
 case atStart=>exact⟨0,Nat.zero_le _,rfl,Lh rfl,HB0⟩
 case round =>
  obtain⟨j,hj,rfl,FN,BW⟩:=hrel;by_cases hlt:j<K
  ·obtain⟨c,hc⟩:∃ c,l[j]? = some c:=⟨_,List.getElem?_eq_getElem (by rw [HK.out];exact hlt)⟩;have hbw:Below N w wr:=BW.out.mono hN;obtain⟨b,off,rfl,hb,hcell⟩:=HP.out (by rw [HK.out];omega);obtain⟨q0,q1,q2,q3⟩:=hcell j c hc;have c0:=low_cells hbw _ _ hb _ q0;have c1:=low_cells hbw _ _ hb _ q1;have c2:=low_cells hbw _ _ hb _ q2;have c3:=low_cells hbw _ _ hb _ q3;have CC:=Lh (HQ.out c (List.mem_of_getElem? hc) wr BW.out);clear hcell q0 q1 q2 q3;have HC:=Lh hc;clear hc hbw;cases hs:q c
   ·have FN2:=Lh (any_next HC.out hs FN.out);rw [hs] at CC;clear hs;go_wp2_with (go_at_call 116;((with_reducible refine CC.out.mono ?_);rintro e w1 ⟨rfl,hb1⟩;have HB1:=Lh (BW.out.then_ hb1);clear hb1))
    go_roundw
    case rel=>exact⟨j+1,by omega,by go_num,FN2,HB1⟩
    case measure=>simp [intOf];omega
   ·have FS:=Lh (any_at HC.out hs);rw [hs] at CC;clear hs;go_wp2_with (go_at_call 116;((with_reducible refine CC.out.mono ?_);rintro e w1 ⟨rfl,hb1⟩;have HB1:=Lh (BW.out.then_ hb1);clear hb1))
    go_ret;exact⟨_,rfl,by omega,by rw [FS.out];exact decide_eq_true (by omega),HB1.out⟩
  ·have FN2:Hid (l.any q=false):=Lh (by have:=FN.out;rw [List.take_of_length_le (by rw [HK.out];omega)] at this;exact this);go_wp2;go_ret;exact⟨_,rfl,by omega,by rw [FN2.out];rfl,BW.out⟩
theorem wrong_has (l:List Wt) (q:Wt→Bool) (v:Value) (N:Nat) (w:World) (ha:WtA N w v l) (hN:N≤w.heap.size) (hq:∀ t∈l,∀ W,Below w.heap.size w W→Calls Tryz.prog 116 #[.agg #[.int .i64 t.lo,.int .i64 t.hi,.int .i64 t.wt,.bool t.ea]] W (tBool (q t) W)) :
  Calls Tryz.prog 115 #[v,.func (.func 116) #[] #[]] w (tBool (l.any q) w):=by
 have IC:=Lh (wrong_ix l q v N w ha hN hq);have hcc:∃ p cap,v=.slice p l.length cap:=(by obtain⟨p,cap,e,_⟩:=ha;exact⟨p,cap,e⟩);obtain⟨p,cap,rfl⟩:=hcc;clear ha hq;generalize l.any q=c at *
 generalize l.length=K at *
 cases c
 ·go_enter Tryz.func115,Tryz.ntmps115
  go_wp2_with (go_at_call 164;((with_reducible refine IC.out.mono ?_);rintro e w1 ⟨r,rfl,⟨hr0,hr1⟩,hr,hb⟩;have HB:=Lh hb;clear hb))
  go_ret;exact⟨rfl,HB.out⟩
 ·go_enter Tryz.func115,Tryz.ntmps115
  go_wp2_with (go_at_call 164;((with_reducible refine IC.out.mono ?_);rintro e w1 ⟨r,rfl,⟨hr0,hr1⟩,hr,hb⟩;have HB:=Lh hb;clear hb))
  go_ret;exact⟨rfl,HB.out⟩
end ItW
namespace ClW
open Go Go.RowKit LexW LexM ClM
inductive At (S:Nat→Prop) (w:World):Sh→Value→Lf→Prop where
 | n (i:Int):At S w .n (.int .i64 i) (.n i)
 | s (t:ByteArray) (h:t.size≤140737488351232):At S w .s (.string t) (.s t)
 | b (v:Bool):At S w .b (.bool v) (.b v)
 | row (k:Kd) (l:List (List Lf)) (p:Option Addr) (cap:Nat) (F:Nat→Nat→Value)
   (hl:l.length*byt k≤140737488351232) (hc:l.length≤cap)
   (hp:0<l.length→∃ b off,p=some ⟨b,off,none⟩∧S b∧∀ i j,i<l.length→j<(shp k).length→w.cell? ⟨b,off+i*(shp k).length+j,none⟩=some (F i j))
   (hw:∀ (i:Nat) (x:List Lf),l[i]? = some x→x.length=(shp k).length)
   (hx:∀ (i:Nat) (x:List Lf) (j:Nat) (y:Lf) (sh:Sh),l[i]? = some x→x[j]? = some y→(shp k)[j]? = some sh→At S w sh (F i j) y) :
   At S w (.r k) (.slice p l.length cap) (.row k l)
structure RowA (S:Nat→Prop) (w:World) (k:Kd) (p:Option Addr) (cap:Nat) (F:Nat→Nat→Value) (l:List (List Lf)):Prop where
 hl:l.length*byt k≤140737488351232
 hc:l.length≤cap
 hp:0<l.length→∃ b off,p=some ⟨b,off,none⟩∧S b∧∀ i j,i<l.length→j<(shp k).length→w.cell? ⟨b,off+i*(shp k).length+j,none⟩=some (F i j)
 hw:∀ (i:Nat) (x:List Lf),l[i]? = some x→x.length=(shp k).length
 hx:∀ (i:Nat) (x:List Lf) (j:Nat) (y:Lf) (sh:Sh),l[i]? = some x→x[j]? = some y→(shp k)[j]? = some sh→At S w sh (F i j) y
theorem At.form {S:Nat→Prop} {w:World} {k:Kd} {v:Value} {lf:Lf} (h:At S w (.r k) v lf):∃ l p cap F,lf=.row k l∧v=.slice p l.length cap∧RowA S w k p cap F l:=by
 cases h with
 | row k l p cap F hl hc hp hw hx=>exact⟨l,p,cap,F,rfl,rfl,hl,hc,hp,hw,hx⟩
theorem At.rowOf {S:Nat→Prop} {w:World} {k:Kd} {v:Value} {l:List (List Lf)} (h:At S w (.r k) v (.row k l)):∃ p cap F,v=.slice p l.length cap∧RowA S w k p cap F l:=by
 obtain⟨l',p,cap,F,e,rfl,hr⟩:=h.form;cases e;exact⟨p,cap,F,rfl,hr⟩
theorem RowA.at_ {S:Nat→Prop} {w:World} {k:Kd} {p:Option Addr} {cap:Nat} {F:Nat→Nat→Value} {l:List (List Lf)} (h:RowA S w k p cap F l):At S w (.r k) (.slice p l.length cap) (.row k l) :=
 .row k l p cap F h.hl h.hc h.hp h.hw h.hx
theorem At.sOf {S:Nat→Prop} {w:World} {v:Value} {t:ByteArray} (h:At S w .s v (.s t)):v=.string t∧t.size≤140737488351232:=by
 cases h with
 | s _ h=>exact⟨rfl,h⟩
theorem At.nOf {S:Nat→Prop} {w:World} {v:Value} {i:Int} (h:At S w .n v (.n i)):v=.int .i64 i:=by cases h;rfl
theorem At.nInv {S:Nat→Prop} {w:World} {v:Value} {lf:Lf} (h:At S w .n v lf):∃ i,v=.int .i64 i∧lf=.n i:=by cases h;exact⟨_,rfl,rfl⟩
theorem At.sInv {S:Nat→Prop} {w:World} {v:Value} {lf:Lf} (h:At S w .s v lf):∃ t,v=.string t∧lf=.s t∧t.size≤140737488351232:=by cases h with | s t h=>exact⟨t,rfl,rfl,h⟩
theorem At.bInv {S:Nat→Prop} {w:World} {v:Value} {lf:Lf} (h:At S w .b v lf):∃ i,v=.bool i∧lf=.b i:=by cases h;exact⟨_,rfl,rfl⟩
theorem At.kept {S S':Nat→Prop} {w w':World} (hS:∀ b,S b→S' b) (hk:∀ b o,S b→∀ v,w.cell? ⟨b,o,none⟩=some v→w'.cell? ⟨b,o,none⟩=some v) {sh:Sh} {v:Value} {lf:Lf} (h:At S w sh v lf):At S' w' sh v lf:=by
 induction h with
 | n i=>exact .n i
 | s t h=>exact .s t h
 | b v=>exact .b v
 | row k l p cap F hl hc hp hw hx ih =>
  refine .row k l p cap F hl hc (fun h0=>?_) hw ih;obtain⟨b,off,e,hb,hcell⟩:=hp h0;exact⟨b,off,e,hS b hb,fun i j hi hj=>hk _ _ hb _ (hcell i j hi hj)⟩
theorem RowA.kept {S S':Nat→Prop} {w w':World} (hS:∀ b,S b→S' b) (hk:∀ b o,S b→∀ v,w.cell? ⟨b,o,none⟩=some v→w'.cell? ⟨b,o,none⟩=some v) {k:Kd} {p:Option Addr} {cap:Nat} {F:Nat→Nat→Value} {l:List (List Lf)} (h:RowA S w k p cap F l):RowA S' w' k p cap F l:=by
 refine⟨h.hl,h.hc,fun h0=>?_,h.hw,fun i x j y sh a b c=>(h.hx i x j y sh a b c).kept hS hk⟩;obtain⟨b,off,e,hb,hcell⟩:=h.hp h0;exact⟨b,off,e,hS b hb,fun i j hi hj=>hk _ _ hb _ (hcell i j hi hj)⟩
abbrev Lo (N:Nat):Nat→Prop:=fun b=>b<N
abbrev Hi (lo:Nat) (w:World):Nat→Prop:=fun b=>lo≤b∧b<w.heap.size
theorem At.under {N:Nat} {w w':World} (hb:Below N w w') {sh:Sh} {v:Value} {lf:Lf} (h:At (Lo N) w sh v lf):At (Lo N) w' sh v lf :=
 h.kept (fun _ h=>h) (fun b o hlt _ hv=>(hb.cell (p:=⟨b,o,none⟩) hlt).trans hv)
theorem RowA.under {N:Nat} {w w':World} (hb:Below N w w') {k:Kd} {p:Option Addr} {cap:Nat} {F:Nat→Nat→Value} {l:List (List Lf)} (h:RowA (Lo N) w k p cap F l):RowA (Lo N) w' k p cap F l :=
 h.kept (fun _ h=>h) (fun b o hlt _ hv=>(hb.cell (p:=⟨b,o,none⟩) hlt).trans hv)
theorem At.later {lo:Nat} {w w':World} {sh:Sh} {v:Value} {lf:Lf} (h:At (Hi lo w) w sh v lf) (hb:Below w.heap.size w w'):At (Hi lo w') w' sh v lf :=
 h.kept (fun _ g=>⟨g.1,Nat.lt_of_lt_of_le g.2 hb.size⟩) (fun _ o g _ hv=>(hb.cell (p:=⟨_,o,none⟩) g.2).trans hv)
theorem At.nilRow {S:Nat→Prop} {w:World} (k:Kd) (p:Option Addr) (cap:Nat):At S w (.r k) (.slice p 0 cap) (.row k []) :=
 .row k [] p cap (fun _ _=>.bool false) (by simp) (by simp) (fun h=>by simp at h) (fun _ _ h=>by simp at h) (fun _ _ _ _ _ h=>by simp at h)
abbrev cv (nm par:ByteArray) (f b:Value):Value:=.agg #[.string nm,.string par,f,b]
structure CV (S:Nat→Prop) (w:World) (pf:Option Addr) (cf:Nat) (pb:Option Addr) (cb:Nat) (c:Cl):Prop where
 nm:c.nm.size≤140737488351232
 par:c.par.size≤140737488351232
 fs:At S w (.r .fields) (.slice pf c.fs.length cf) (.row .fields (c.fs.map Fld.lf))
 bs:At S w (.r .blocks) (.slice pb c.bs.length cb) (.row .blocks (c.bs.map Bk.lf))
theorem CV.kept {S S':Nat→Prop} {w w':World} (hS:∀ b,S b→S' b) (hk:∀ b o,S b→∀ v,w.cell? ⟨b,o,none⟩=some v→w'.cell? ⟨b,o,none⟩=some v) {pf:Option Addr} {cf:Nat} {pb:Option Addr} {cb:Nat} {c:Cl} (h:CV S w pf cf pb cb c):CV S' w' pf cf pb cb c :=
 ⟨h.nm,h.par,h.fs.kept hS hk,h.bs.kept hS hk⟩
theorem CV.under {N:Nat} {w w':World} (hb:Below N w w') {pf:Option Addr} {cf:Nat} {pb:Option Addr} {cb:Nat} {c:Cl} (h:CV (Lo N) w pf cf pb cb c):CV (Lo N) w' pf cf pb cb c:=⟨h.nm,h.par,h.fs.under hb,h.bs.under hb⟩
theorem RowA.wt {S:Nat→Prop} {w:World} {p:Option Addr} {cap:Nat} {F:Nat→Nat→Value} {l:List (List Lf)} (h:RowA S w .weights p cap F l) {i:Nat} {x:List Lf} (hi:l[i]? = some x) :
  ∃ b off a c d e,x=[.n a,.n c,.n d,.b e]∧p=some ⟨b,off,none⟩∧S b∧w.cell? ⟨b,off+i*4,none⟩=some (.int .i64 a)∧w.cell? ⟨b,off+i*4+1,none⟩=some (.int .i64 c)∧w.cell? ⟨b,off+i*4+2,none⟩=some (.int .i64 d)∧w.cell? ⟨b,off+i*4+3,none⟩=some (.bool e):=by
 have hil:=(List.getElem?_eq_some_iff.1 hi).1;obtain⟨b,off,rfl,hb,hcell⟩:=h.hp (by omega);have hw:=h.hw i x hi;match x,hw with
 | [y0,y1,y2,y3],_ =>
  obtain⟨a,e0,rfl⟩:=(h.hx i _ 0 y0 .n hi rfl rfl).nInv;obtain⟨c,e1,rfl⟩:=(h.hx i _ 1 y1 .n hi rfl rfl).nInv;obtain⟨d,e2,rfl⟩:=(h.hx i _ 2 y2 .n hi rfl rfl).nInv;obtain⟨e,e3,rfl⟩:=(h.hx i _ 3 y3 .b hi rfl rfl).bInv;have c0:=hcell i 0 hil (by decide);have c1:=hcell i 1 hil (by decide);have c2:=hcell i 2 hil (by decide);have c3:=hcell i 3 hil (by decide);rw [e0] at c0;rw [e1] at c1;rw [e2] at c2;rw [e3] at c3;exact⟨b,off,a,c,d,e,rfl,rfl,hb,c0,c1,c2,c3⟩
structure ItL where
 kd:Int
 op:Int
 n:Int
 en:ByteArray
 ea:List (List Lf)
 nm:ByteArray
 ix:ByteArray
 ws:List (List Lf)
 it:List (List Lf)
 el:List (List Lf)
 bf:List (List Lf)
 af:List (List Lf)
def ItL.lf (x:ItL):List Lf:=[.n x.kd,.n x.op,.n x.n,.s x.en,.row .exprs x.ea,.s x.nm,.s x.ix,.row .weights x.ws,.row .items x.it,.row .items x.el,.row .strs x.bf,.row .strs x.af]
structure ItP where
 p4:Option Addr
 c4:Nat
 p7:Option Addr
 c7:Nat
 p8:Option Addr
 c8:Nat
 p9:Option Addr
 c9:Nat
 p10:Option Addr
 c10:Nat
 p11:Option Addr
 c11:Nat
structure IV (S:Nat→Prop) (w:World) (q:ItP) (x:ItL):Prop where
 en:x.en.size≤140737488351232
 nm:x.nm.size≤140737488351232
 ix:x.ix.size≤140737488351232
 ea:At S w (.r .exprs) (.slice q.p4 x.ea.length q.c4) (.row .exprs x.ea)
 ws:At S w (.r .weights) (.slice q.p7 x.ws.length q.c7) (.row .weights x.ws)
 it:At S w (.r .items) (.slice q.p8 x.it.length q.c8) (.row .items x.it)
 el:At S w (.r .items) (.slice q.p9 x.el.length q.c9) (.row .items x.el)
 bf:At S w (.r .strs) (.slice q.p10 x.bf.length q.c10) (.row .strs x.bf)
 af:At S w (.r .strs) (.slice q.p11 x.af.length q.c11) (.row .strs x.af)
theorem IV.kept {S S':Nat→Prop} {w w':World} (hS:∀ b,S b→S' b) (hk:∀ b o,S b→∀ v,w.cell? ⟨b,o,none⟩=some v→w'.cell? ⟨b,o,none⟩=some v) {q:ItP} {x:ItL} (h:IV S w q x):IV S' w' q x :=
 ⟨h.en,h.nm,h.ix,h.ea.kept hS hk,h.ws.kept hS hk,h.it.kept hS hk,h.el.kept hS hk,h.bf.kept hS hk,h.af.kept hS hk⟩
theorem IV.under {N:Nat} {w w':World} (hb:Below N w w') {q:ItP} {x:ItL} (h:IV (Lo N) w q x):IV (Lo N) w' q x :=
 h.kept (fun _ h=>h) (fun b o hlt _ hv=>(hb.cell (p:=⟨b,o,none⟩) hlt).trans hv)
end ClW
namespace ClW
open Go Go.RowKit Go.ChangeShapes Go.WideShapes Go.ChangeAt LexM LexW ClM
def laidAll:List (String × DataW Unit):=Rows.itemScalarsRow.laid
theorem own:ownKnob Tryz.prog.godebug=none:=by kernel_rfl
theorem tRange:(Tryz.prog.globals[2]?).map (·.type)=some 194:=by kernel_rfl
theorem cellsErr:Tryz.prog.cellsOf 235=1:=by kernel_rfl
theorem cellsStr:Tryz.prog.cellsOf 9=1:=by kernel_rfl
theorem star : "*" ++ "errors.errorString" = "*errors.errorString" := by decide
theorem rowErr (u : TypeId) (h : Tryz.prog.typeName? 3 u = some "*errors.errorString") : u = 233 :=
 typeName_ptr_named (nm := "errors.errorString") (by rw [star]; kernel_rfl) (by kernel_rfl) (by decide) u (by rw [star]; exact h)
theorem tab_of_laid {W:World} (h:laidMetH Tryz.prog laidAll W):Tab W:=by
 rw [MakeChecks.laidMetH_plain _ _ _ (by kernel_rfl)] at h; have h1 : laidMet Tryz.prog (("strconv.ErrRange", Rows.laid_strconv_ErrRange) :: ("strconv.ErrSyntax", Rows.laid_strconv_ErrSyntax) :: []) W := h.tail.tail.tail; obtain ⟨a0, _, hv0, _⟩ := laid_sentinel h1 gRange tRange Tryz.underlying194 rowErr Tryz.underlying233 Tryz.underlying235 rfl rfl Tryz.underlying9 cellsErr cellsStr; exact ⟨_, _, hv0⟩
theorem door_met (os:Os) (args:Array Value):laidMetH Tryz.prog laidAll ((World.doorLaid Tryz.prog 400 os).forCall (fun _ _=>0) ⟨#[],args,[]⟩).memory :=
 laidMetH_of_parts3 (fuel:=8) (laidMet_of_run' 8 (by kernel_rfl) (by kernel_rfl)) (by kernel_rfl) (by kernel_rfl)
theorem laidOut:laidOutB Tryz.prog=true:=by kernel_rfl
theorem add_at (b off k:Nat):(⟨b,off,none⟩:Addr).add k=⟨b,off+k,none⟩:=by
 unfold Addr.add;by_cases h:k=0
 ·subst h;simp
 ·simp [h]
theorem pick_list {α:Type} {Q:Nat→α→Prop}:∀ n:Nat,(∀ i,i<n→∃ t,Q i t)→∃ l:List α,l.length=n∧∀ i t,l[i]? = some t→Q i t
 | 0,_=>⟨[],rfl,fun i t h=>by simp at h⟩
 | n+1,h=>by
  obtain⟨l,hl,hq⟩:=pick_list n (fun i hi=>h i (by omega));obtain⟨t,ht⟩:=h n (by omega);refine⟨l++[t],by simp [hl],fun i u hu=>?_⟩;by_cases hi:i<n
  ·rw [List.getElem?_append_left (by omega)] at hu;exact hq i u hu
  ·have hil:i<(l++[t]).length:=(List.getElem?_eq_some_iff.1 hu).1;have e:i=n:=(by simp [hl] at hil;omega);subst e;rw [List.getElem?_append_right (by omega),hl] at hu;have:t=u:=(by simpa using hu);rw [←this];exact ht
theorem weights_in {H:Type} {P:Program} {e:TypeId}:∀ {l:List (DataW H)} {d:DataW H},d∈l→∀ n∈d.weights P e,n∈DataW.weightsAll P e l
 | d'::r,d,hd,n,hn=>by
  simp only [DataW.weightsAll,List.mem_append];rcases List.mem_cons.1 hd with rfl | h
  ·exact .inl hn
  ·exact .inr (weights_in h n hn)
theorem cells_int:Tryz.prog.cellsOf 3=1:=by kernel_rfl
theorem cells_string:Tryz.prog.cellsOf 9=1:=by kernel_rfl
theorem cells_bool:Tryz.prog.cellsOf 4=1:=by kernel_rfl
theorem cells_Block:Tryz.prog.cellsOf 254=2:=by kernel_rfl
theorem cells_Class:Tryz.prog.cellsOf 34=4:=by kernel_rfl
theorem cells_Expr:Tryz.prog.cellsOf 43=4:=by kernel_rfl
theorem cells_Field:Tryz.prog.cellsOf 77=5:=by kernel_rfl
theorem cells_Item:Tryz.prog.cellsOf 55=12:=by kernel_rfl
theorem cells_Weight:Tryz.prog.cellsOf 130=4:=by kernel_rfl
theorem cells_SBlock:Tryz.prog.cellsOf 32=1:=by kernel_rfl
theorem cells_SExpr:Tryz.prog.cellsOf 41=1:=by kernel_rfl
theorem cells_SField:Tryz.prog.cellsOf 31=1:=by kernel_rfl
theorem cells_SItem:Tryz.prog.cellsOf 22=1:=by kernel_rfl
theorem cells_SWeight:Tryz.prog.cellsOf 53=1:=by kernel_rfl
theorem cells_Sstring:Tryz.prog.cellsOf 27=1:=by kernel_rfl
theorem bytes_Expr:Tryz.prog.bytesOf 43=56:=by kernel_rfl
theorem bytes_Weight:Tryz.prog.bytesOf 130=32:=by kernel_rfl
theorem bytes_Item:Tryz.prog.bytesOf 55=216:=by kernel_rfl
theorem bytes_string:Tryz.prog.bytesOf 9=16:=by kernel_rfl
theorem bytes_Field:Tryz.prog.bytesOf 77=48:=by kernel_rfl
theorem bytes_Block:Tryz.prog.bytesOf 254=40:=by kernel_rfl
inductive Fz (S:Nat→Prop) (W:World):List Sh→List Value→List Lf→Prop
 | nil:Fz S W [] [] []
 | cons {sh:Sh} {v:Value} {y:Lf} {shs:List Sh} {vs:List Value} {ys:List Lf} (h:At S W sh v y) (hr:Fz S W shs vs ys):Fz S W (sh::shs) (v::vs) (y::ys)
theorem Fz.len {S:Nat→Prop} {W:World} {shs:List Sh} {vs:List Value} {ys:List Lf} (h:Fz S W shs vs ys):vs.length=shs.length∧ys.length=shs.length:=by
 induction h with
 | nil=>exact⟨rfl,rfl⟩
 | cons _ _ ih=>simp [ih.1,ih.2]
theorem Fz.at_ {S:Nat→Prop} {W:World} {shs:List Sh} {vs:List Value} {ys:List Lf} (h:Fz S W shs vs ys):∀ (j:Nat) (v:Value) (y:Lf) (sh:Sh),vs[j]? = some v→ys[j]? = some y→shs[j]? = some sh→At S W sh v y:=by
 induction h with
 | nil=>intro j v y sh h;simp at h
 | cons h _ ih =>
  intro j v y sh h1 h2 h3;cases j with
  | zero=>simp at h1 h2 h3;subst h1 h2 h3;exact h
  | succ j=>exact ih j v y sh (by simpa using h1) (by simpa using h2) (by simpa using h3)
section
variable {H:Type} {enc:TypeId × Value→H} {W:World}
theorem row_of (kd:Kd) (T E:TypeId) (hT:Tryz.prog.underlying T=some (.slice E)) (hc:Tryz.prog.cellsOf E=(shp kd).length) (hb:Tryz.prog.bytesOf E=byt kd) (h0:0<(shp kd).length) (fuel:Nat)
  (hel:∀ m (cs:List Value) (x:DataW H × List MemPlace),m<fuel→cs.length=(shp kd).length→DataW.trod enc Tryz.prog W 0 (fun _=>true) true m E cs=some x→(∀ y∈x.2,y.block<W.heap.size)→(∀ n∈x.1.weights Tryz.prog E,n≤140737488351232)→∃ ls,Fz (Lo W.heap.size) W (shp kd) cs ls)
  (v:Value) (x:DataW H × List MemPlace) (h:DataW.trod enc Tryz.prog W 0 (fun _=>true) true fuel T [v]=some x) (hlt:∀ y∈x.2,y.block<W.heap.size) (hw:∀ n∈x.1.weights Tryz.prog T,n≤140737488351232):∃ l,At (Lo W.heap.size) W (.r kd) v (.row kd l):=by
 rcases DataW.trod_slice hT h with ⟨hcs,_⟩ | ⟨a,len,cap,elems,rest,m,rfl,hcs,rfl,_,hlc,_,hl,hE,_,_⟩
 ·obtain rfl:v=.slice none 0 0:=(by simpa using hcs);exact⟨[],.nilRow _ _ _⟩
 ·obtain rfl:v=.slice (some a) len cap:=(by simpa using hcs);rw [hc] at hE hlt;have hbytes:len*byt kd≤140737488351232:=by
   have:=hw ((elems.length+rest.length)*byt kd) (by simp only [DataW.weights,hT,hb,List.length_map];simp);have h2:len*byt kd≤(elems.length+rest.length)*byt kd:=Nat.mul_le_mul_right _ (by omega);omega
  have each:∀ i,i<len→∃ t:List Value × List Lf,(∀ j,j<(shp kd).length→W.cell? ((a.add (i*(shp kd).length)).add j)=t.1[j]?)∧Fz (Lo W.heap.size) W (shp kd) t.1 t.2:=fun i hi=>by
   have hi2:i<elems.length:=(by omega);have hbb:=hE i hi;rw [List.getElem?_eq_getElem hi2,Option.bind_eq_some_iff] at hbb;obtain⟨cs',hc',ht'⟩:=hbb;obtain⟨_,hcl,hat⟩:=World.cells?_some hc';have hmem:elems[i]∈elems:=List.getElem_mem hi2
   obtain⟨ls,hf⟩:=hel m cs' elems[i] (by omega) hcl ht'
    (fun y hy=>hlt y (List.mem_append.2 (.inr (List.mem_flatMap.2 ⟨_,List.mem_append.2 (.inl hmem),hy⟩))))
    (fun q hq=>hw q (by
     simp only [DataW.weights,hT,List.mem_cons,List.mem_append];exact .inr (.inl (weights_in (List.mem_map.2 ⟨_,hmem,rfl⟩) q hq))))
   exact⟨(cs',ls),hat,hf⟩
  obtain⟨l,hll,hq⟩:=pick_list len each;have get:∀ (i:Nat) (y:List Lf),(l.map (·.2))[i]? = some y→∃ t:List Value × List Lf,l[i]? = some t∧t.2=y:=fun i y he=>by
   rw [List.getElem?_map] at he;obtain⟨t,ht,rfl⟩:=Option.map_eq_some_iff.1 he;exact⟨t,ht,rfl⟩
  have hkl:(l.map (·.2)).length=len:=(by rw [List.length_map,hll]);refine⟨l.map (·.2),?_⟩;have r:RowA (Lo W.heap.size) W kd (some a) cap (fun i j=>(((l[i]?).map (·.1)).getD []).getD j undef) (l.map (·.2)):=by
   refine⟨by rw [hkl];exact hbytes,by rw [hkl];exact hlc,fun hpos=>?_,fun i y he=>?_,fun i y j z sh he hz hsh=>?_⟩
   ·rw [hkl] at hpos;obtain⟨b,off,spot⟩:=a;have hspot:spot=none:=by
     obtain⟨t0,ht0⟩:∃ t,l[0]? = some t:=⟨_,List.getElem?_eq_getElem (by omega)⟩;obtain⟨g1,g2⟩:=hq 0 t0 ht0;have:=g1 0 h0;rw [List.getElem?_eq_getElem (by rw [g2.len.1];exact h0)] at this
     simpa [Addr.add] using World.cell?_spot this
    subst hspot;refine⟨b,off,rfl,hlt (.cell b off) (List.mem_append.2 (.inl (MemPlace.mem_row.2 ⟨0,Nat.mul_pos (by omega) h0,by simp⟩))),fun i j hi hj=>?_⟩;rw [hkl] at hi;obtain⟨t,ht⟩:∃ t,l[i]? = some t:=⟨_,List.getElem?_eq_getElem (by omega)⟩;obtain⟨g1,g2⟩:=hq i t ht;have:=g1 j hj;rw [add_at,add_at] at this;rw [this,ht];simp only [Option.map_some,Option.getD_some];rw [List.getElem?_eq_getElem (by rw [g2.len.1];exact hj),List.getD_eq_getElem?_getD,List.getElem?_eq_getElem (by rw [g2.len.1];exact hj)];rfl
   ·obtain⟨t,ht,rfl⟩:=get i y he;exact (hq i t ht).2.len.2
   ·obtain⟨t,ht,rfl⟩:=get i y he;have hf:=(hq i t ht).2;have hj:j<t.1.length:=(by rw [hf.len.1];exact (List.getElem?_eq_some_iff.1 hsh).1);simp only [ht,Option.map_some,Option.getD_some];rw [List.getD_eq_getElem?_getD,List.getElem?_eq_getElem hj];exact hf.at_ j _ z sh (List.getElem?_eq_getElem hj) hz hsh
  have:=r.at_;rw [hkl] at this;exact this
def slT:Kd→TypeId
 | .exprs=>41
 | .weights=>53
 | .items=>22
 | .strs=>27
 | .fields=>31
 | .blocks=>32
 | .classes=>34
def RowsTo (enc:TypeId × Value→H) (W:World) (fuel:Nat):Prop:=∀ m,m<fuel→∀ (kd:Kd),kd≠.classes→∀ (v:Value) (x:DataW H × List MemPlace),DataW.trod enc Tryz.prog W 0 (fun _=>true) true m (slT kd) [v]=some x→(∀ y∈x.2,y.block<W.heap.size)→(∀ n∈x.1.weights Tryz.prog (slT kd),n≤140737488351232)→∃ l,At (Lo W.heap.size) W (.r kd) v (.row kd l)
theorem el_exprs (fuel:Nat) (ih:RowsTo enc W fuel) (cs:List Value) (x:DataW H × List MemPlace) (hl:cs.length=4) (h:DataW.trod enc Tryz.prog W 0 (fun _=>true) true fuel 43 cs=some x) (hlt:∀ y∈x.2,y.block<W.heap.size) (hw:∀ n∈x.1.weights Tryz.prog 43,n≤140737488351232):∃ ls,Fz (Lo W.heap.size) W (shp .exprs) cs ls:=by
 obtain⟨xs,n,rfl,rfl,_,hlen,hfd⟩:=DataW.trod_struct Tryz.underlying43 h;match cs,hl with
 | [c0,c1,c2,c3],_ =>
  match xs,hlen with
  | [y0,y1,y2,y3],_ =>
   have h0:DataW.trod enc Tryz.prog W 0 (fun _=>true) true n 3 ([c0,c1,c2,c3].take (Tryz.prog.cellsOf 3))=some y0:=hfd 0 _ rfl;rw [cells_int,show [c0,c1,c2,c3].take 1=[c0] from rfl] at h0;obtain⟨m0,e0,_,_⟩:=DataW.trod_int Tryz.underlying3 h0;obtain rfl:c0=.int .i64 m0:=(by simpa using e0);have h1:DataW.trod enc Tryz.prog W 0 (fun _=>true) true n 3 ([c1,c2,c3].take (Tryz.prog.cellsOf 3))=some y1:=hfd 1 _ rfl;rw [cells_int,show [c1,c2,c3].take 1=[c1] from rfl] at h1;obtain⟨m1,e1,_,_⟩:=DataW.trod_int Tryz.underlying3 h1;obtain rfl:c1=.int .i64 m1:=(by simpa using e1);have h2:DataW.trod enc Tryz.prog W 0 (fun _=>true) true n 9 ([c2,c3].take (Tryz.prog.cellsOf 9))=some y2:=hfd 2 _ rfl;rw [cells_string,show [c2,c3].take 1=[c2] from rfl] at h2;have p2:∀ z∈y2.2,z.block<W.heap.size:=(fun z hz=>hlt z (List.mem_flatMap.2 ⟨y2,by simp,hz⟩));have w2:∀ q∈y2.1.weights Tryz.prog 9,q≤140737488351232:=fun q hq=>hw q (by
    simp only [DataW.weights,Tryz.underlying43];exact DataW.weights_mem_each (j:=2) rfl rfl q hq)
   obtain⟨s2,e2,g2,_⟩:=DataW.trod_string Tryz.underlying9 h2;obtain rfl:c2=.string s2:=(by simpa using e2);have z2:s2.size≤140737488351232:=by
    rw [g2] at w2;have:=w2 s2.data.toList.length (by simp [DataW.weights]);rw [len_data] at this;exact this
   have h3:DataW.trod enc Tryz.prog W 0 (fun _=>true) true n 41 ([c3].take (Tryz.prog.cellsOf 41))=some y3:=hfd 3 _ rfl;rw [cells_SExpr,show [c3].take 1=[c3] from rfl] at h3;have p3:∀ z∈y3.2,z.block<W.heap.size:=(fun z hz=>hlt z (List.mem_flatMap.2 ⟨y3,by simp,hz⟩));have w3:∀ q∈y3.1.weights Tryz.prog 41,q≤140737488351232:=fun q hq=>hw q (by
    simp only [DataW.weights,Tryz.underlying43];exact DataW.weights_mem_each (j:=3) rfl rfl q hq)
   obtain⟨l3,a3⟩:=ih n (by omega) .exprs (fun h=>by cases h) c3 y3 h3 p3 w3;exact⟨_,(.cons (.n m0) (.cons (.n m1) (.cons (.s s2 z2) (.cons a3 .nil))))⟩
theorem el_weights (fuel:Nat) (ih:RowsTo enc W fuel) (cs:List Value) (x:DataW H × List MemPlace) (hl:cs.length=4) (h:DataW.trod enc Tryz.prog W 0 (fun _=>true) true fuel 130 cs=some x) (hlt:∀ y∈x.2,y.block<W.heap.size) (hw:∀ n∈x.1.weights Tryz.prog 130,n≤140737488351232):∃ ls,Fz (Lo W.heap.size) W (shp .weights) cs ls:=by
 obtain⟨xs,n,rfl,rfl,_,hlen,hfd⟩:=DataW.trod_struct Tryz.underlying130 h;match cs,hl with
 | [c0,c1,c2,c3],_ =>
  match xs,hlen with
  | [y0,y1,y2,y3],_ =>
   have h0:DataW.trod enc Tryz.prog W 0 (fun _=>true) true n 3 ([c0,c1,c2,c3].take (Tryz.prog.cellsOf 3))=some y0:=hfd 0 _ rfl;rw [cells_int,show [c0,c1,c2,c3].take 1=[c0] from rfl] at h0;obtain⟨m0,e0,_,_⟩:=DataW.trod_int Tryz.underlying3 h0;obtain rfl:c0=.int .i64 m0:=(by simpa using e0);have h1:DataW.trod enc Tryz.prog W 0 (fun _=>true) true n 3 ([c1,c2,c3].take (Tryz.prog.cellsOf 3))=some y1:=hfd 1 _ rfl;rw [cells_int,show [c1,c2,c3].take 1=[c1] from rfl] at h1;obtain⟨m1,e1,_,_⟩:=DataW.trod_int Tryz.underlying3 h1;obtain rfl:c1=.int .i64 m1:=(by simpa using e1);have h2:DataW.trod enc Tryz.prog W 0 (fun _=>true) true n 3 ([c2,c3].take (Tryz.prog.cellsOf 3))=some y2:=hfd 2 _ rfl;rw [cells_int,show [c2,c3].take 1=[c2] from rfl] at h2;obtain⟨m2,e2,_,_⟩:=DataW.trod_int Tryz.underlying3 h2;obtain rfl:c2=.int .i64 m2:=(by simpa using e2);have h3:DataW.trod enc Tryz.prog W 0 (fun _=>true) true n 4 ([c3].take (Tryz.prog.cellsOf 4))=some y3:=hfd 3 _ rfl;rw [cells_bool,show [c3].take 1=[c3] from rfl] at h3;obtain⟨m3,e3,_⟩:=DataW.trod_bool Tryz.underlying4 h3;obtain rfl:c3=.bool m3:=(by simpa using e3);exact⟨_,(.cons (.n m0) (.cons (.n m1) (.cons (.n m2) (.cons (.b m3) .nil))))⟩
theorem el_items (fuel:Nat) (ih:RowsTo enc W fuel) (cs:List Value) (x:DataW H × List MemPlace) (hl:cs.length=12) (h:DataW.trod enc Tryz.prog W 0 (fun _=>true) true fuel 55 cs=some x) (hlt:∀ y∈x.2,y.block<W.heap.size) (hw:∀ n∈x.1.weights Tryz.prog 55,n≤140737488351232):∃ ls,Fz (Lo W.heap.size) W (shp .items) cs ls:=by
 obtain⟨xs,n,rfl,rfl,_,hlen,hfd⟩:=DataW.trod_struct Tryz.underlying55 h;match cs,hl with
 | [c0,c1,c2,c3,c4,c5,c6,c7,c8,c9,c10,c11],_ =>
  match xs,hlen with
  | [y0,y1,y2,y3,y4,y5,y6,y7,y8],_ =>
   have h0:DataW.trod enc Tryz.prog W 0 (fun _=>true) true n 3 ([c0,c1,c2,c3,c4,c5,c6,c7,c8,c9,c10,c11].take (Tryz.prog.cellsOf 3))=some y0:=hfd 0 _ rfl;rw [cells_int,show [c0,c1,c2,c3,c4,c5,c6,c7,c8,c9,c10,c11].take 1=[c0] from rfl] at h0;obtain⟨m0,e0,_,_⟩:=DataW.trod_int Tryz.underlying3 h0;obtain rfl:c0=.int .i64 m0:=(by simpa using e0);have h1:DataW.trod enc Tryz.prog W 0 (fun _=>true) true n 43 ([c1,c2,c3,c4,c5,c6,c7,c8,c9,c10,c11].take (Tryz.prog.cellsOf 43))=some y1:=hfd 1 _ rfl;rw [cells_Expr,show [c1,c2,c3,c4,c5,c6,c7,c8,c9,c10,c11].take 4=[c1,c2,c3,c4] from rfl] at h1;have p1:∀ z∈y1.2,z.block<W.heap.size:=(fun z hz=>hlt z (List.mem_flatMap.2 ⟨y1,by simp,hz⟩));have w1:∀ q∈y1.1.weights Tryz.prog 43,q≤140737488351232:=fun q hq=>hw q (by
    simp only [DataW.weights,Tryz.underlying55];exact DataW.weights_mem_each (j:=1) rfl rfl q hq)
   obtain⟨ls1,a1⟩:=el_exprs n (fun m hm=>ih m (by omega)) [c1,c2,c3,c4] y1 rfl h1 p1 w1;have h2:DataW.trod enc Tryz.prog W 0 (fun _=>true) true n 9 ([c5,c6,c7,c8,c9,c10,c11].take (Tryz.prog.cellsOf 9))=some y2:=hfd 2 _ rfl;rw [cells_string,show [c5,c6,c7,c8,c9,c10,c11].take 1=[c5] from rfl] at h2;have p2:∀ z∈y2.2,z.block<W.heap.size:=(fun z hz=>hlt z (List.mem_flatMap.2 ⟨y2,by simp,hz⟩));have w2:∀ q∈y2.1.weights Tryz.prog 9,q≤140737488351232:=fun q hq=>hw q (by
    simp only [DataW.weights,Tryz.underlying55];exact DataW.weights_mem_each (j:=2) rfl rfl q hq)
   obtain⟨s2,e2,g2,_⟩:=DataW.trod_string Tryz.underlying9 h2;obtain rfl:c5=.string s2:=(by simpa using e2);have z2:s2.size≤140737488351232:=by
    rw [g2] at w2;have:=w2 s2.data.toList.length (by simp [DataW.weights]);rw [len_data] at this;exact this
   have h3:DataW.trod enc Tryz.prog W 0 (fun _=>true) true n 9 ([c6,c7,c8,c9,c10,c11].take (Tryz.prog.cellsOf 9))=some y3:=hfd 3 _ rfl;rw [cells_string,show [c6,c7,c8,c9,c10,c11].take 1=[c6] from rfl] at h3;have p3:∀ z∈y3.2,z.block<W.heap.size:=(fun z hz=>hlt z (List.mem_flatMap.2 ⟨y3,by simp,hz⟩));have w3:∀ q∈y3.1.weights Tryz.prog 9,q≤140737488351232:=fun q hq=>hw q (by
    simp only [DataW.weights,Tryz.underlying55];exact DataW.weights_mem_each (j:=3) rfl rfl q hq)
   obtain⟨s3,e3,g3,_⟩:=DataW.trod_string Tryz.underlying9 h3;obtain rfl:c6=.string s3:=(by simpa using e3);have z3:s3.size≤140737488351232:=by
    rw [g3] at w3;have:=w3 s3.data.toList.length (by simp [DataW.weights]);rw [len_data] at this;exact this
   have h4:DataW.trod enc Tryz.prog W 0 (fun _=>true) true n 53 ([c7,c8,c9,c10,c11].take (Tryz.prog.cellsOf 53))=some y4:=hfd 4 _ rfl;rw [cells_SWeight,show [c7,c8,c9,c10,c11].take 1=[c7] from rfl] at h4;have p4:∀ z∈y4.2,z.block<W.heap.size:=(fun z hz=>hlt z (List.mem_flatMap.2 ⟨y4,by simp,hz⟩));have w4:∀ q∈y4.1.weights Tryz.prog 53,q≤140737488351232:=fun q hq=>hw q (by
    simp only [DataW.weights,Tryz.underlying55];exact DataW.weights_mem_each (j:=4) rfl rfl q hq)
   obtain⟨l4,a4⟩:=ih n (by omega) .weights (fun h=>by cases h) c7 y4 h4 p4 w4;have h5:DataW.trod enc Tryz.prog W 0 (fun _=>true) true n 22 ([c8,c9,c10,c11].take (Tryz.prog.cellsOf 22))=some y5:=hfd 5 _ rfl;rw [cells_SItem,show [c8,c9,c10,c11].take 1=[c8] from rfl] at h5;have p5:∀ z∈y5.2,z.block<W.heap.size:=(fun z hz=>hlt z (List.mem_flatMap.2 ⟨y5,by simp,hz⟩));have w5:∀ q∈y5.1.weights Tryz.prog 22,q≤140737488351232:=fun q hq=>hw q (by
    simp only [DataW.weights,Tryz.underlying55];exact DataW.weights_mem_each (j:=5) rfl rfl q hq)
   obtain⟨l5,a5⟩:=ih n (by omega) .items (fun h=>by cases h) c8 y5 h5 p5 w5;have h6:DataW.trod enc Tryz.prog W 0 (fun _=>true) true n 22 ([c9,c10,c11].take (Tryz.prog.cellsOf 22))=some y6:=hfd 6 _ rfl;rw [cells_SItem,show [c9,c10,c11].take 1=[c9] from rfl] at h6;have p6:∀ z∈y6.2,z.block<W.heap.size:=(fun z hz=>hlt z (List.mem_flatMap.2 ⟨y6,by simp,hz⟩));have w6:∀ q∈y6.1.weights Tryz.prog 22,q≤140737488351232:=fun q hq=>hw q (by
    simp only [DataW.weights,Tryz.underlying55];exact DataW.weights_mem_each (j:=6) rfl rfl q hq)
   obtain⟨l6,a6⟩:=ih n (by omega) .items (fun h=>by cases h) c9 y6 h6 p6 w6;have h7:DataW.trod enc Tryz.prog W 0 (fun _=>true) true n 27 ([c10,c11].take (Tryz.prog.cellsOf 27))=some y7:=hfd 7 _ rfl;rw [cells_Sstring,show [c10,c11].take 1=[c10] from rfl] at h7;have p7:∀ z∈y7.2,z.block<W.heap.size:=(fun z hz=>hlt z (List.mem_flatMap.2 ⟨y7,by simp,hz⟩));have w7:∀ q∈y7.1.weights Tryz.prog 27,q≤140737488351232:=fun q hq=>hw q (by
    simp only [DataW.weights,Tryz.underlying55];exact DataW.weights_mem_each (j:=7) rfl rfl q hq)
   obtain⟨l7,a7⟩:=ih n (by omega) .strs (fun h=>by cases h) c10 y7 h7 p7 w7;have h8:DataW.trod enc Tryz.prog W 0 (fun _=>true) true n 27 ([c11].take (Tryz.prog.cellsOf 27))=some y8:=hfd 8 _ rfl;rw [cells_Sstring,show [c11].take 1=[c11] from rfl] at h8;have p8:∀ z∈y8.2,z.block<W.heap.size:=(fun z hz=>hlt z (List.mem_flatMap.2 ⟨y8,by simp,hz⟩));have w8:∀ q∈y8.1.weights Tryz.prog 27,q≤140737488351232:=fun q hq=>hw q (by
    simp only [DataW.weights,Tryz.underlying55];exact DataW.weights_mem_each (j:=8) rfl rfl q hq)
   obtain⟨l8,a8⟩:=ih n (by omega) .strs (fun h=>by cases h) c11 y8 h8 p8 w8;cases a1 with
   | cons b0 r1=>cases r1 with
    | cons b1 r2=>cases r2 with
     | cons b2 r3=>cases r3 with
      | cons b3 r4=>cases r4 with
       | nil =>
        exact⟨_,(.cons (.n m0) (.cons b0 (.cons b1 (.cons b2 (.cons b3 (.cons (.s s2 z2) (.cons (.s s3 z3) (.cons a4 (.cons a5 (.cons a6 (.cons a7 (.cons a8 .nil))))))))))))⟩
theorem el_fields (fuel:Nat) (ih:RowsTo enc W fuel) (cs:List Value) (x:DataW H × List MemPlace) (hl:cs.length=5) (h:DataW.trod enc Tryz.prog W 0 (fun _=>true) true fuel 77 cs=some x) (hlt:∀ y∈x.2,y.block<W.heap.size) (hw:∀ n∈x.1.weights Tryz.prog 77,n≤140737488351232):∃ ls,Fz (Lo W.heap.size) W (shp .fields) cs ls:=by
 obtain⟨xs,n,rfl,rfl,_,hlen,hfd⟩:=DataW.trod_struct Tryz.underlying77 h;match cs,hl with
 | [c0,c1,c2,c3,c4],_ =>
  match xs,hlen with
  | [y0,y1,y2,y3,y4],_ =>
   have h0:DataW.trod enc Tryz.prog W 0 (fun _=>true) true n 9 ([c0,c1,c2,c3,c4].take (Tryz.prog.cellsOf 9))=some y0:=hfd 0 _ rfl;rw [cells_string,show [c0,c1,c2,c3,c4].take 1=[c0] from rfl] at h0;have p0:∀ z∈y0.2,z.block<W.heap.size:=(fun z hz=>hlt z (List.mem_flatMap.2 ⟨y0,by simp,hz⟩));have w0:∀ q∈y0.1.weights Tryz.prog 9,q≤140737488351232:=fun q hq=>hw q (by
    simp only [DataW.weights,Tryz.underlying77];exact DataW.weights_mem_each (j:=0) rfl rfl q hq)
   obtain⟨s0,e0,g0,_⟩:=DataW.trod_string Tryz.underlying9 h0;obtain rfl:c0=.string s0:=(by simpa using e0);have z0:s0.size≤140737488351232:=by
    rw [g0] at w0;have:=w0 s0.data.toList.length (by simp [DataW.weights]);rw [len_data] at this;exact this
   have h1:DataW.trod enc Tryz.prog W 0 (fun _=>true) true n 3 ([c1,c2,c3,c4].take (Tryz.prog.cellsOf 3))=some y1:=hfd 1 _ rfl;rw [cells_int,show [c1,c2,c3,c4].take 1=[c1] from rfl] at h1;obtain⟨m1,e1,_,_⟩:=DataW.trod_int Tryz.underlying3 h1;obtain rfl:c1=.int .i64 m1:=(by simpa using e1);have h2:DataW.trod enc Tryz.prog W 0 (fun _=>true) true n 3 ([c2,c3,c4].take (Tryz.prog.cellsOf 3))=some y2:=hfd 2 _ rfl;rw [cells_int,show [c2,c3,c4].take 1=[c2] from rfl] at h2;obtain⟨m2,e2,_,_⟩:=DataW.trod_int Tryz.underlying3 h2;obtain rfl:c2=.int .i64 m2:=(by simpa using e2);have h3:DataW.trod enc Tryz.prog W 0 (fun _=>true) true n 3 ([c3,c4].take (Tryz.prog.cellsOf 3))=some y3:=hfd 3 _ rfl;rw [cells_int,show [c3,c4].take 1=[c3] from rfl] at h3;obtain⟨m3,e3,_,_⟩:=DataW.trod_int Tryz.underlying3 h3;obtain rfl:c3=.int .i64 m3:=(by simpa using e3);have h4:DataW.trod enc Tryz.prog W 0 (fun _=>true) true n 3 ([c4].take (Tryz.prog.cellsOf 3))=some y4:=hfd 4 _ rfl;rw [cells_int,show [c4].take 1=[c4] from rfl] at h4;obtain⟨m4,e4,_,_⟩:=DataW.trod_int Tryz.underlying3 h4;obtain rfl:c4=.int .i64 m4:=(by simpa using e4);exact⟨_,(.cons (.s s0 z0) (.cons (.n m1) (.cons (.n m2) (.cons (.n m3) (.cons (.n m4) .nil)))))⟩
theorem el_blocks (fuel:Nat) (ih:RowsTo enc W fuel) (cs:List Value) (x:DataW H × List MemPlace) (hl:cs.length=2) (h:DataW.trod enc Tryz.prog W 0 (fun _=>true) true fuel 254 cs=some x) (hlt:∀ y∈x.2,y.block<W.heap.size) (hw:∀ n∈x.1.weights Tryz.prog 254,n≤140737488351232):∃ ls,Fz (Lo W.heap.size) W (shp .blocks) cs ls:=by
 obtain⟨xs,n,rfl,rfl,_,hlen,hfd⟩:=DataW.trod_struct Tryz.underlying254 h;match cs,hl with
 | [c0,c1],_ =>
  match xs,hlen with
  | [y0,y1],_ =>
   have h0:DataW.trod enc Tryz.prog W 0 (fun _=>true) true n 9 ([c0,c1].take (Tryz.prog.cellsOf 9))=some y0:=hfd 0 _ rfl;rw [cells_string,show [c0,c1].take 1=[c0] from rfl] at h0;have p0:∀ z∈y0.2,z.block<W.heap.size:=(fun z hz=>hlt z (List.mem_flatMap.2 ⟨y0,by simp,hz⟩));have w0:∀ q∈y0.1.weights Tryz.prog 9,q≤140737488351232:=fun q hq=>hw q (by
    simp only [DataW.weights,Tryz.underlying254];exact DataW.weights_mem_each (j:=0) rfl rfl q hq)
   obtain⟨s0,e0,g0,_⟩:=DataW.trod_string Tryz.underlying9 h0;obtain rfl:c0=.string s0:=(by simpa using e0);have z0:s0.size≤140737488351232:=by
    rw [g0] at w0;have:=w0 s0.data.toList.length (by simp [DataW.weights]);rw [len_data] at this;exact this
   have h1:DataW.trod enc Tryz.prog W 0 (fun _=>true) true n 22 ([c1].take (Tryz.prog.cellsOf 22))=some y1:=hfd 1 _ rfl;rw [cells_SItem,show [c1].take 1=[c1] from rfl] at h1;have p1:∀ z∈y1.2,z.block<W.heap.size:=(fun z hz=>hlt z (List.mem_flatMap.2 ⟨y1,by simp,hz⟩));have w1:∀ q∈y1.1.weights Tryz.prog 22,q≤140737488351232:=fun q hq=>hw q (by
    simp only [DataW.weights,Tryz.underlying254];exact DataW.weights_mem_each (j:=1) rfl rfl q hq)
   obtain⟨l1,a1⟩:=ih n (by omega) .items (fun h=>by cases h) c1 y1 h1 p1 w1;exact⟨_,(.cons (.s s0 z0) (.cons a1 .nil))⟩
theorem el_classes (fuel:Nat) (ih:RowsTo enc W fuel) (cs:List Value) (x:DataW H × List MemPlace) (hl:cs.length=4) (h:DataW.trod enc Tryz.prog W 0 (fun _=>true) true fuel 34 cs=some x) (hlt:∀ y∈x.2,y.block<W.heap.size) (hw:∀ n∈x.1.weights Tryz.prog 34,n≤140737488351232):∃ ls,Fz (Lo W.heap.size) W (shp .classes) cs ls:=by
 obtain⟨xs,n,rfl,rfl,_,hlen,hfd⟩:=DataW.trod_struct Tryz.underlying34 h;match cs,hl with
 | [c0,c1,c2,c3],_ =>
  match xs,hlen with
  | [y0,y1,y2,y3],_ =>
   have h0:DataW.trod enc Tryz.prog W 0 (fun _=>true) true n 9 ([c0,c1,c2,c3].take (Tryz.prog.cellsOf 9))=some y0:=hfd 0 _ rfl;rw [cells_string,show [c0,c1,c2,c3].take 1=[c0] from rfl] at h0;have p0:∀ z∈y0.2,z.block<W.heap.size:=(fun z hz=>hlt z (List.mem_flatMap.2 ⟨y0,by simp,hz⟩));have w0:∀ q∈y0.1.weights Tryz.prog 9,q≤140737488351232:=fun q hq=>hw q (by
    simp only [DataW.weights,Tryz.underlying34];exact DataW.weights_mem_each (j:=0) rfl rfl q hq)
   obtain⟨s0,e0,g0,_⟩:=DataW.trod_string Tryz.underlying9 h0;obtain rfl:c0=.string s0:=(by simpa using e0);have z0:s0.size≤140737488351232:=by
    rw [g0] at w0;have:=w0 s0.data.toList.length (by simp [DataW.weights]);rw [len_data] at this;exact this
   have h1:DataW.trod enc Tryz.prog W 0 (fun _=>true) true n 9 ([c1,c2,c3].take (Tryz.prog.cellsOf 9))=some y1:=hfd 1 _ rfl;rw [cells_string,show [c1,c2,c3].take 1=[c1] from rfl] at h1;have p1:∀ z∈y1.2,z.block<W.heap.size:=(fun z hz=>hlt z (List.mem_flatMap.2 ⟨y1,by simp,hz⟩));have w1:∀ q∈y1.1.weights Tryz.prog 9,q≤140737488351232:=fun q hq=>hw q (by
    simp only [DataW.weights,Tryz.underlying34];exact DataW.weights_mem_each (j:=1) rfl rfl q hq)
   obtain⟨s1,e1,g1,_⟩:=DataW.trod_string Tryz.underlying9 h1;obtain rfl:c1=.string s1:=(by simpa using e1);have z1:s1.size≤140737488351232:=by
    rw [g1] at w1;have:=w1 s1.data.toList.length (by simp [DataW.weights]);rw [len_data] at this;exact this
   have h2:DataW.trod enc Tryz.prog W 0 (fun _=>true) true n 31 ([c2,c3].take (Tryz.prog.cellsOf 31))=some y2:=hfd 2 _ rfl;rw [cells_SField,show [c2,c3].take 1=[c2] from rfl] at h2;have p2:∀ z∈y2.2,z.block<W.heap.size:=(fun z hz=>hlt z (List.mem_flatMap.2 ⟨y2,by simp,hz⟩));have w2:∀ q∈y2.1.weights Tryz.prog 31,q≤140737488351232:=fun q hq=>hw q (by
    simp only [DataW.weights,Tryz.underlying34];exact DataW.weights_mem_each (j:=2) rfl rfl q hq)
   obtain⟨l2,a2⟩:=ih n (by omega) .fields (fun h=>by cases h) c2 y2 h2 p2 w2;have h3:DataW.trod enc Tryz.prog W 0 (fun _=>true) true n 32 ([c3].take (Tryz.prog.cellsOf 32))=some y3:=hfd 3 _ rfl;rw [cells_SBlock,show [c3].take 1=[c3] from rfl] at h3;have p3:∀ z∈y3.2,z.block<W.heap.size:=(fun z hz=>hlt z (List.mem_flatMap.2 ⟨y3,by simp,hz⟩));have w3:∀ q∈y3.1.weights Tryz.prog 32,q≤140737488351232:=fun q hq=>hw q (by
    simp only [DataW.weights,Tryz.underlying34];exact DataW.weights_mem_each (j:=3) rfl rfl q hq)
   obtain⟨l3,a3⟩:=ih n (by omega) .blocks (fun h=>by cases h) c3 y3 h3 p3 w3;exact⟨_,(.cons (.s s0 z0) (.cons (.s s1 z1) (.cons a2 (.cons a3 .nil))))⟩
theorem el_strs (fuel:Nat) (cs:List Value) (x:DataW H × List MemPlace) (hl:cs.length=1) (h:DataW.trod enc Tryz.prog W 0 (fun _=>true) true fuel 9 cs=some x) (hw:∀ n∈x.1.weights Tryz.prog 9,n≤140737488351232):∃ ls,Fz (Lo W.heap.size) W (shp .strs) cs ls:=by
 match cs,hl with
 | [c0],_ =>
  obtain⟨s0,e0,g0,_⟩:=DataW.trod_string Tryz.underlying9 h;obtain rfl:c0=.string s0:=(by simpa using e0);have z0:s0.size≤140737488351232:=by
   rw [g0] at hw;have:=hw s0.data.toList.length (by simp [DataW.weights]);rw [len_data] at this;exact this
  exact⟨_,.cons (.s s0 z0) .nil⟩
theorem open_rows:∀ fuel:Nat,RowsTo enc W fuel:=by
 intro fuel;induction fuel with
 | zero=>intro m hm;omega
 | succ k ih =>
  intro m hm kd hkd v x h hlt hw;have ihm:∀ j,j<m→RowsTo enc W j:=(fun j hj i hi=>ih i (by omega));cases kd with
  | exprs=>exact row_of .exprs _ _ Tryz.underlying41 cells_Expr bytes_Expr (by decide) m (fun j cs x hj hl h hlt hw=>el_exprs j (ihm j hj) cs x hl h hlt hw) v x h hlt hw
  | weights=>exact row_of .weights _ _ Tryz.underlying53 cells_Weight bytes_Weight (by decide) m (fun j cs x hj hl h hlt hw=>el_weights j (ihm j hj) cs x hl h hlt hw) v x h hlt hw
  | items=>exact row_of .items _ _ Tryz.underlying22 cells_Item bytes_Item (by decide) m (fun j cs x hj hl h hlt hw=>el_items j (ihm j hj) cs x hl h hlt hw) v x h hlt hw
  | strs=>exact row_of .strs _ _ Tryz.underlying27 cells_string bytes_string (by decide) m (fun j cs x hj hl h hlt hw=>el_strs j cs x hl h hw) v x h hlt hw
  | fields=>exact row_of .fields _ _ Tryz.underlying31 cells_Field bytes_Field (by decide) m (fun j cs x hj hl h hlt hw=>el_fields j (ihm j hj) cs x hl h hlt hw) v x h hlt hw
  | blocks=>exact row_of .blocks _ _ Tryz.underlying32 cells_Block bytes_Block (by decide) m (fun j cs x hj hl h hlt hw=>el_blocks j (ihm j hj) cs x hl h hlt hw) v x h hlt hw
  | classes=>exact absurd rfl hkd
end
theorem all_of {α β:Type} {f:α→β}:∀ {l:List β},(∀ x∈l,∃ a,f a=x)→∃ r:List α,r.map f=l
 | [],_=>⟨[],rfl⟩
 | x::l,h=>by
  obtain⟨a,rfl⟩:=h x (List.mem_cons_self ..);obtain⟨r,rfl⟩:=all_of (fun x hx=>h x (List.mem_cons_of_mem _ hx));exact⟨a::r,rfl⟩
theorem At.flds {S:Nat→Prop} {W:World} {v:Value} {l:List (List Lf)} (h:At S W (.r .fields) v (.row .fields l)):∃ fs:List Fld,fs.map Fld.lf=l:=by
 obtain⟨p,cap,F,rfl,r⟩:=h.rowOf;refine all_of (fun x hx=>?_);obtain⟨i,hi⟩:=List.getElem?_of_mem hx;have hw:=r.hw i x hi;match x,hw with
 | [y0,y1,y2,y3,y4],_ =>
  obtain⟨a0,_,rfl,_⟩:=(r.hx i _ 0 y0 .s hi rfl rfl).sInv;obtain⟨a1,_,rfl⟩:=(r.hx i _ 1 y1 .n hi rfl rfl).nInv;obtain⟨a2,_,rfl⟩:=(r.hx i _ 2 y2 .n hi rfl rfl).nInv;obtain⟨a3,_,rfl⟩:=(r.hx i _ 3 y3 .n hi rfl rfl).nInv;obtain⟨a4,_,rfl⟩:=(r.hx i _ 4 y4 .n hi rfl rfl).nInv;exact⟨⟨a0,a1,a2,a3,a4⟩,rfl⟩
theorem At.bks {S:Nat→Prop} {W:World} {v:Value} {l:List (List Lf)} (h:At S W (.r .blocks) v (.row .blocks l)):∃ fs:List Bk,fs.map Bk.lf=l:=by
 obtain⟨p,cap,F,rfl,r⟩:=h.rowOf;refine all_of (fun x hx=>?_);obtain⟨i,hi⟩:=List.getElem?_of_mem hx;have hw:=r.hw i x hi;match x,hw with
 | [y0,y1],_ =>
  obtain⟨a0,_,rfl,_⟩:=(r.hx i _ 0 y0 .s hi rfl rfl).sInv;obtain⟨l1,_,_,_,rfl,_,_⟩:=(r.hx i _ 1 y1 (.r .items) hi rfl rfl).form;exact⟨⟨a0,l1⟩,rfl⟩
theorem reach_le {n:Nat} (h:decide (n≤reachBytes)=true):n≤140737488351232:=of_decide_eq_true h
theorem open_class {H:Type} {enc:TypeId × Value→H} {W:World} {r:Reach} {b0:Nat} {v:Value} {d:DataW H} {p:List MemPlace} (hval:Value.okWide Tryz.prog W r b0 34 v)
  (h:DataW.Trod enc Tryz.prog W 0 (fun _=>true) true 34 v d p) (hlt:∀ x∈p,x.block<W.heap.size) (hw:∀ n∈d.weights Tryz.prog 34,n≤140737488351232):∃ (c:Cl) (pf:Option Addr) (cf:Nat) (pb:Option Addr) (cb:Nat),v=cv c.nm c.par (.slice pf c.fs.length cf) (.slice pb c.bs.length cb)∧CV (Lo W.heap.size) W pf cf pb cb c:=by
 obtain⟨cs,rfl,hcs⟩:=okWide_struct Tryz.underlying34 hval;rw [cells_Class] at hcs;obtain⟨fuel,hf⟩:=h;obtain⟨ls,hz⟩:=el_classes fuel (open_rows fuel) cs.toList (d,p) (by simpa using hcs) (by simpa [Value.cells] using hf) hlt hw;obtain⟨l,hl⟩:∃ l,cs.toList=l:=⟨_,rfl⟩;rw [hl] at hz;have hc:cs=l.toArray:=(by rw [←hl]);subst hc;cases hz with
 | cons b0 r1=>cases r1 with
  | cons b1 r2=>cases r2 with
   | cons b2 r3=>cases r3 with
    | cons b3 r4=>cases r4 with
     | nil =>
      obtain⟨t0,rfl,rfl,z0⟩:=b0.sInv;obtain⟨t1,rfl,rfl,z1⟩:=b1.sInv;obtain⟨l2,p2,k2,_,rfl,rfl,_⟩:=b2.form;obtain⟨l3,p3,k3,_,rfl,rfl,_⟩:=b3.form;obtain⟨fs,rfl⟩:=b2.flds;obtain⟨bs,rfl⟩:=b3.bks;rw [List.length_map] at b2 b3 ⊢;rw [List.length_map];exact⟨⟨t0,t1,fs,bs⟩,p2,k2,p3,k3,rfl,z0,z1,b2,b3⟩
end ClW
namespace ExW
open Go Go.RowKit Go.ChangeShapes Go.WideShapes Go.ChangeAt LexM LexW ExM
def laidAll:List (String × DataW Unit):=Rows.itemScalarsRow.laid
theorem own:ownKnob Tryz.prog.godebug=none:=by kernel_rfl
theorem tRange:(Tryz.prog.globals[2]?).map (·.type)=some 194:=by kernel_rfl
theorem cellsErr:Tryz.prog.cellsOf 235=1:=by kernel_rfl
theorem cellsStr:Tryz.prog.cellsOf 9=1:=by kernel_rfl
theorem star : "*" ++ "errors.errorString" = "*errors.errorString" := by decide
theorem rowErr (u : TypeId) (h : Tryz.prog.typeName? 3 u = some "*errors.errorString") : u = 233 :=
 typeName_ptr_named (nm := "errors.errorString") (by rw [star]; kernel_rfl) (by kernel_rfl) (by decide) u (by rw [star]; exact h)
theorem tab_of_laid {W:World} (h:laidMetH Tryz.prog laidAll W):Tab W:=by
 rw [MakeChecks.laidMetH_plain _ _ _ (by kernel_rfl)] at h; have h1 : laidMet Tryz.prog (("strconv.ErrRange", Rows.laid_strconv_ErrRange) :: ("strconv.ErrSyntax", Rows.laid_strconv_ErrSyntax) :: []) W := h.tail.tail.tail; obtain ⟨a0, _, hv0, _⟩ := laid_sentinel h1 gRange tRange Tryz.underlying194 rowErr Tryz.underlying233 Tryz.underlying235 rfl rfl Tryz.underlying9 cellsErr cellsStr; exact ⟨_, _, hv0⟩
theorem door_met (os:Os) (args:Array Value):laidMetH Tryz.prog laidAll ((World.doorLaid Tryz.prog 400 os).forCall (fun _ _=>0) ⟨#[],args,[]⟩).memory :=
 laidMetH_of_parts3 (fuel:=8) (laidMet_of_run' 8 (by kernel_rfl) (by kernel_rfl)) (by kernel_rfl) (by kernel_rfl)
theorem laidOut:laidOutB Tryz.prog=true:=by kernel_rfl
theorem cellsX:Tryz.prog.cellsOf 3=1∧Tryz.prog.cellsOf 9=1∧Tryz.prog.cellsOf 43=4∧Tryz.prog.cellsOf 103=2∧Tryz.prog.cellsOf 41=1∧Tryz.prog.bytesOf 43=56∧Tryz.prog.bytesOf 103=24:=by
 refine⟨?_,?_,?_,?_,?_,?_,?_⟩<;>kernel_rfl
theorem add_at (b off k:Nat):(⟨b,off,none⟩:Addr).add k=⟨b,off+k,none⟩:=by
 unfold Addr.add;by_cases h:k=0
 ·subst h;simp
 ·simp [h]
theorem pick_list {α:Type} {Q:Nat→α→Prop}:∀ n:Nat,(∀ i,i<n→∃ t,Q i t)→∃ l:List α,l.length=n∧∀ i t,l[i]? = some t→Q i t
 | 0,_=>⟨[],rfl,fun i t h=>by simp at h⟩
 | n+1,h=>by
  obtain⟨l,hl,hq⟩:=pick_list n (fun i hi=>h i (by omega));obtain⟨t,ht⟩:=h n (by omega);refine⟨l++[t],by simp [hl],fun i u hu=>?_⟩;by_cases hi:i<n
  ·rw [List.getElem?_append_left (by omega)] at hu;exact hq i u hu
  ·have hil:i<(l++[t]).length:=(List.getElem?_eq_some_iff.1 hu).1;have e:i=n:=(by simp [hl] at hil;omega);subst e;rw [List.getElem?_append_right (by omega),hl] at hu;have:t=u:=(by simpa using hu);rw [←this];exact ht
theorem weights_in {H:Type} {P:Program} {e:TypeId}:∀ {l:List (DataW H)} {d:DataW H},d∈l→∀ n∈d.weights P e,n∈DataW.weightsAll P e l
 | d'::r,d,hd,n,hn=>by
  simp only [DataW.weightsAll,List.mem_append];rcases List.mem_cons.1 hd with rfl | h
  ·exact .inl hn
  ·exact .inr (weights_in h n hn)
theorem four_of {W:World} {a:Addr} {i:Nat} {c0 c1 c2 c3:Value} (h:∀ j,j<4→W.cell? ((a.add (i*4)).add j)=([c0,c1,c2,c3]:List Value)[j]?) {b off:Nat} (e:a=⟨b,off,none⟩) :
  W.cell? ⟨b,off+i*4,none⟩=some c0∧W.cell? ⟨b,off+i*4+1,none⟩=some c1∧W.cell? ⟨b,off+i*4+2,none⟩=some c2∧W.cell? ⟨b,off+i*4+3,none⟩=some c3:=by
 subst e;simp only [add_at] at h;exact⟨h 0 (by omega),h 1 (by omega),h 2 (by omega),h 3 (by omega)⟩
theorem open_ex {H:Type} {enc:TypeId × Value→H} {W:World}:∀ (fuel:Nat) (cs:List Value) (x:DataW H × List MemPlace),cs.length=4 →
  DataW.trod enc Tryz.prog W 0 (fun _=>true) true fuel 43 cs=some x→(∀ y∈x.2,y.block<W.heap.size)→(∀ n∈x.1.weights Tryz.prog 43,n≤140737488351232) →
  ∃ (e:Ex) (p:Option Addr) (cap:Nat),cs=[.int .i64 e.op,.int .i64 e.n,.string e.nm,.slice p e.args.length cap]∧ExAt W.heap.size W (xv e.op e.n e.nm (.slice p e.args.length cap)) e:=by
 intro fuel;induction fuel using Nat.strongRecOn with
 | _ fuel ih =>
 intro cs x hl h hlt hw;obtain⟨k1,k2,k3,_,k5,k6,_⟩:=cellsX;obtain⟨xs,n,rfl,rfl,_,hlen,hfd⟩:=DataW.trod_struct Tryz.underlying43 h;match cs,hl with
 | [c0,c1,c2,c3],_ =>
  match xs,hlen with
  | [y0,y1,y2,y3],_ =>
   have h0:DataW.trod enc Tryz.prog W 0 (fun _=>true) true n 3 ([c0,c1,c2,c3].take (Tryz.prog.cellsOf 3))=some y0:=hfd 0 _ rfl;rw [k1,show [c0,c1,c2,c3].take 1=[c0] from rfl] at h0;have h1:DataW.trod enc Tryz.prog W 0 (fun _=>true) true n 3 ([c1,c2,c3].take (Tryz.prog.cellsOf 3))=some y1:=hfd 1 _ rfl;rw [k1,show [c1,c2,c3].take 1=[c1] from rfl] at h1;have h2:DataW.trod enc Tryz.prog W 0 (fun _=>true) true n 9 ([c2,c3].take (Tryz.prog.cellsOf 9))=some y2:=hfd 2 _ rfl;rw [k2,show [c2,c3].take 1=[c2] from rfl] at h2;have h3:DataW.trod enc Tryz.prog W 0 (fun _=>true) true n 41 ([c3].take (Tryz.prog.cellsOf 41))=some y3:=hfd 3 _ rfl;rw [k5,show [c3].take 1=[c3] from rfl] at h3;obtain⟨m0,e0,_,w0⟩:=DataW.trod_int Tryz.underlying3 h0;obtain⟨m1,e1,_,w1⟩:=DataW.trod_int Tryz.underlying3 h1;obtain⟨s2,e2,rfl,w2⟩:=DataW.trod_string Tryz.underlying9 h2;obtain rfl:c0=.int .i64 m0:=(by simpa using e0);obtain rfl:c1=.int .i64 m1:=(by simpa using e1);obtain rfl:c2=.string s2:=(by simpa using e2);have hwS:∀ q∈(DataW.lit (Lit.string s2.data.toList):DataW H).weights Tryz.prog 9,q≤140737488351232:=fun q hq=>hw q (by
    simp only [DataW.weights,Tryz.underlying43];exact DataW.weights_mem_each (j:=2) rfl rfl q hq)
   have hwA:∀ q∈y3.1.weights Tryz.prog 41,q≤140737488351232:=fun q hq=>hw q (by
    simp only [DataW.weights,Tryz.underlying43];exact DataW.weights_mem_each (j:=3) rfl rfl q hq)
   have hs2:s2.size≤140737488351232:=by
    have:=hwS s2.data.toList.length (by simp [DataW.weights]);rw [len_data] at this;exact this
   rcases DataW.trod_slice Tryz.underlying41 h3 with ⟨hcs,_⟩ | ⟨a,len,cap,elems,rest,m,rfl,hcs,rfl,_,hlc,_,hel,hE,_,_⟩
   ·obtain rfl:c3=.slice none 0 0:=(by simpa using hcs);exact⟨.mk m0 m1 s2 [],none,0,rfl,ExAt.mk (ks:=[]) (fun _=>none) (fun _=>0) hs2 (by simp) (by simp) (fun h=>by simp at h) (fun i a hi=>by simp at hi)⟩
   ·obtain rfl:c3=.slice (some a) len cap:=(by simpa using hcs);rw [k3] at hE hlt;have hbytes:len≤140737488351232:=by
     have:=hwA ((elems.length+rest.length)*56) (by simp only [DataW.weights,Tryz.underlying41,k6,List.length_map];simp);omega
    have each:∀ i,i<len→∃ t:Ex × Option Addr × Nat,(∀ j,j<4→W.cell? ((a.add (i*4)).add j)=([.int .i64 t.1.op,.int .i64 t.1.n,.string t.1.nm,.slice t.2.1 t.1.args.length t.2.2]:List Value)[j]?)∧ExAt W.heap.size W (xv t.1.op t.1.n t.1.nm (.slice t.2.1 t.1.args.length t.2.2)) t.1:=fun i hi=>by
     have hi2:i<elems.length:=(by omega);have hb:=hE i hi;rw [List.getElem?_eq_getElem hi2,Option.bind_eq_some_iff] at hb;obtain⟨cs',hc',ht'⟩:=hb;obtain⟨_,hcl,hat⟩:=World.cells?_some hc';have hmem:elems[i]∈elems:=List.getElem_mem hi2
     obtain⟨e',p',cap',rfl,hx'⟩:=ih m (by omega) cs' elems[i] hcl ht'
      (fun y hy=>hlt y (by simp only [List.flatMap_cons,List.mem_append];exact .inr (.inr (.inr (.inl (.inr (List.mem_flatMap.2 ⟨_,List.mem_append.2 (.inl hmem),hy⟩))))))) 
      (fun q hq=>hwA q (by
       simp only [DataW.weights,Tryz.underlying41,List.mem_cons,List.mem_append];exact .inr (.inl (weights_in (List.mem_map.2 ⟨_,hmem,rfl⟩) q hq))))
     exact⟨(e',p',cap'),hat,hx'⟩
    obtain⟨l,hll,hq⟩:=pick_list len each;have hkl:(l.map (·.1)).length=len:=(by rw [List.length_map,hll]);refine⟨.mk m0 m1 s2 (l.map (·.1)),some a,cap,by simp only [Ex.op,Ex.n,Ex.nm,Ex.args,hkl],?_⟩;simp only [Ex.op,Ex.n,Ex.nm,Ex.args];have get:∀ (i:Nat) (e':Ex),(l.map (·.1))[i]? = some e'→∃ t:Ex × Option Addr × Nat,l[i]? = some t∧t.1=e':=fun i e' he=>by
     rw [List.getElem?_map] at he;obtain⟨t,ht,rfl⟩:=Option.map_eq_some_iff.1 he;exact⟨t,ht,rfl⟩
    refine ExAt.mk (fun i=>((l[i]?).map (·.2.1)).getD none) (fun i=>((l[i]?).map (·.2.2)).getD 0) hs2 (by omega) (by omega) (fun h0=>?_) (fun i e' he=>?_)
    ·obtain⟨b,off,spot⟩:=a;have hspot:spot=none:=by
      obtain⟨t0,ht0⟩:∃ t,l[0]? = some t:=⟨_,List.getElem?_eq_getElem (by omega)⟩;have:=(hq 0 t0 ht0).1 0 (by omega)
      simpa [Addr.add] using World.cell?_spot this
     subst hspot;refine⟨b,off,rfl,hlt (.cell b off) (by
      simp only [List.flatMap_cons,List.mem_append];exact .inr (.inr (.inr (.inl (.inl (MemPlace.mem_row.2 ⟨0,by omega,by simp⟩)))))),fun i e' he=>?_⟩
     obtain⟨t,ht,rfl⟩:=get i e' he;simp only [ht];exact four_of (hq i t ht).1 rfl
    ·obtain⟨t,ht,rfl⟩:=get i e' he;simp only [ht];exact (hq i t ht).2
theorem reach_le {n:Nat} (h:decide (n≤reachBytes)=true):n≤140737488351232:=of_decide_eq_true h
end ExW
end Go.Proofs.YtpejflgdehioaaaGreatDoor
