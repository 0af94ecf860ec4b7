/-
  Laws that the card uses; no conditions beside those that each states (ClMem ClFirst ClFind ClBase ClOwn ClSame ClSClone ClCloneE ClIndex).
-/
import Derived.OwnWalk
import Derived.Lib.QuietBelow
import Derived.Deep.AppendLies
import Derived.Deep.DeepCutAuto
import Derived.Test.YtihnejaopejbgaaGreatDoorP09
set_option maxRecDepth 100000
set_option maxHeartbeats 16000000
namespace Go.Proofs.YtihnejaopejbgaaGreatDoor
namespace ClW
open Go Go.RowKit LexW LexM ClM
inductive At (S:Nat→Prop) (w:World):Sh→Value→Lf→Prop where
 | n (i:Int):At S w .n (.int .i64 i) (.n i)
 | s (t:ByteArray) (h:t.size≤140737488351232):At S w .s (.string t) (.s t)
 | b (v:Bool):At S w .b (.bool v) (.b v)
 | row (k:Kd) (l:List (List Lf)) (p:Option Addr) (cap:Nat) (F:Nat→Nat→Value)
   (hl:l.length*byt k≤140737488351232) (hc:l.length≤cap)
   (hp:0<l.length→∃ b off,p=some ⟨b,off,none⟩∧S b∧∀ i j,i<l.length→j<(shp k).length→w.cell? ⟨b,off+i*(shp k).length+j,none⟩=some (F i j))
   (hw:∀ (i:Nat) (x:List Lf),l[i]? = some x→x.length=(shp k).length)
   (hx:∀ (i:Nat) (x:List Lf) (j:Nat) (y:Lf) (sh:Sh),l[i]? = some x→x[j]? = some y→(shp k)[j]? = some sh→At S w sh (F i j) y) :
   At S w (.r k) (.slice p l.length cap) (.row k l)
structure RowA (S:Nat→Prop) (w:World) (k:Kd) (p:Option Addr) (cap:Nat) (F:Nat→Nat→Value) (l:List (List Lf)):Prop where
 hl:l.length*byt k≤140737488351232
 hc:l.length≤cap
 hp:0<l.length→∃ b off,p=some ⟨b,off,none⟩∧S b∧∀ i j,i<l.length→j<(shp k).length→w.cell? ⟨b,off+i*(shp k).length+j,none⟩=some (F i j)
 hw:∀ (i:Nat) (x:List Lf),l[i]? = some x→x.length=(shp k).length
 hx:∀ (i:Nat) (x:List Lf) (j:Nat) (y:Lf) (sh:Sh),l[i]? = some x→x[j]? = some y→(shp k)[j]? = some sh→At S w sh (F i j) y
theorem At.form {S:Nat→Prop} {w:World} {k:Kd} {v:Value} {lf:Lf} (h:At S w (.r k) v lf):∃ l p cap F,lf=.row k l∧v=.slice p l.length cap∧RowA S w k p cap F l:=by
 cases h with
 | row k l p cap F hl hc hp hw hx=>exact⟨l,p,cap,F,rfl,rfl,hl,hc,hp,hw,hx⟩
theorem At.rowOf {S:Nat→Prop} {w:World} {k:Kd} {v:Value} {l:List (List Lf)} (h:At S w (.r k) v (.row k l)):∃ p cap F,v=.slice p l.length cap∧RowA S w k p cap F l:=by
 obtain⟨l',p,cap,F,e,rfl,hr⟩:=h.form;cases e;exact⟨p,cap,F,rfl,hr⟩
theorem RowA.at_ {S:Nat→Prop} {w:World} {k:Kd} {p:Option Addr} {cap:Nat} {F:Nat→Nat→Value} {l:List (List Lf)} (h:RowA S w k p cap F l):At S w (.r k) (.slice p l.length cap) (.row k l) :=
 .row k l p cap F h.hl h.hc h.hp h.hw h.hx
theorem At.sOf {S:Nat→Prop} {w:World} {v:Value} {t:ByteArray} (h:At S w .s v (.s t)):v=.string t∧t.size≤140737488351232:=by
 cases h with
 | s _ h=>exact⟨rfl,h⟩
theorem At.nOf {S:Nat→Prop} {w:World} {v:Value} {i:Int} (h:At S w .n v (.n i)):v=.int .i64 i:=by cases h;rfl
theorem At.nInv {S:Nat→Prop} {w:World} {v:Value} {lf:Lf} (h:At S w .n v lf):∃ i,v=.int .i64 i∧lf=.n i:=by cases h;exact⟨_,rfl,rfl⟩
theorem At.sInv {S:Nat→Prop} {w:World} {v:Value} {lf:Lf} (h:At S w .s v lf):∃ t,v=.string t∧lf=.s t∧t.size≤140737488351232:=by cases h with | s t h=>exact⟨t,rfl,rfl,h⟩
theorem At.bInv {S:Nat→Prop} {w:World} {v:Value} {lf:Lf} (h:At S w .b v lf):∃ i,v=.bool i∧lf=.b i:=by cases h;exact⟨_,rfl,rfl⟩
theorem At.kept {S S':Nat→Prop} {w w':World} (hS:∀ b,S b→S' b) (hk:∀ b o,S b→∀ v,w.cell? ⟨b,o,none⟩=some v→w'.cell? ⟨b,o,none⟩=some v) {sh:Sh} {v:Value} {lf:Lf} (h:At S w sh v lf):At S' w' sh v lf:=by
 induction h with
 | n i=>exact .n i
 | s t h=>exact .s t h
 | b v=>exact .b v
 | row k l p cap F hl hc hp hw hx ih =>
  refine .row k l p cap F hl hc (fun h0=>?_) hw ih;obtain⟨b,off,e,hb,hcell⟩:=hp h0;exact⟨b,off,e,hS b hb,fun i j hi hj=>hk _ _ hb _ (hcell i j hi hj)⟩
theorem RowA.kept {S S':Nat→Prop} {w w':World} (hS:∀ b,S b→S' b) (hk:∀ b o,S b→∀ v,w.cell? ⟨b,o,none⟩=some v→w'.cell? ⟨b,o,none⟩=some v) {k:Kd} {p:Option Addr} {cap:Nat} {F:Nat→Nat→Value} {l:List (List Lf)} (h:RowA S w k p cap F l):RowA S' w' k p cap F l:=by
 refine⟨h.hl,h.hc,fun h0=>?_,h.hw,fun i x j y sh a b c=>(h.hx i x j y sh a b c).kept hS hk⟩;obtain⟨b,off,e,hb,hcell⟩:=h.hp h0;exact⟨b,off,e,hS b hb,fun i j hi hj=>hk _ _ hb _ (hcell i j hi hj)⟩
abbrev Lo (N:Nat):Nat→Prop:=fun b=>b<N
abbrev Hi (lo:Nat) (w:World):Nat→Prop:=fun b=>lo≤b∧b<w.heap.size
theorem At.under {N:Nat} {w w':World} (hb:Below N w w') {sh:Sh} {v:Value} {lf:Lf} (h:At (Lo N) w sh v lf):At (Lo N) w' sh v lf :=
 h.kept (fun _ h=>h) (fun b o hlt _ hv=>(hb.cell (p:=⟨b,o,none⟩) hlt).trans hv)
theorem RowA.under {N:Nat} {w w':World} (hb:Below N w w') {k:Kd} {p:Option Addr} {cap:Nat} {F:Nat→Nat→Value} {l:List (List Lf)} (h:RowA (Lo N) w k p cap F l):RowA (Lo N) w' k p cap F l :=
 h.kept (fun _ h=>h) (fun b o hlt _ hv=>(hb.cell (p:=⟨b,o,none⟩) hlt).trans hv)
theorem At.wide {N N':Nat} {w:World} (hN:N≤N') {sh:Sh} {v:Value} {lf:Lf} (h:At (Lo N) w sh v lf):At (Lo N') w sh v lf:=h.kept (fun _ h=>Nat.lt_of_lt_of_le h hN) (fun _ _ _ _ hv=>hv)
theorem RowA.wide {N N':Nat} {w:World} (hN:N≤N') {k:Kd} {p:Option Addr} {cap:Nat} {F:Nat→Nat→Value} {l:List (List Lf)} (h:RowA (Lo N) w k p cap F l):RowA (Lo N') w k p cap F l:=h.kept (fun _ h=>Nat.lt_of_lt_of_le h hN) (fun _ _ _ _ hv=>hv)
theorem At.weak {S S':Nat→Prop} {w:World} {sh:Sh} {v:Value} {lf:Lf} (h:At S w sh v lf) (hS:∀ b,S b→S' b):At S' w sh v lf:=h.kept hS (fun _ _ _ _ hv=>hv)
theorem At.later {lo:Nat} {w w':World} {sh:Sh} {v:Value} {lf:Lf} (h:At (Hi lo w) w sh v lf) (hb:Below w.heap.size w w'):At (Hi lo w') w' sh v lf :=
 h.kept (fun _ g=>⟨g.1,Nat.lt_of_lt_of_le g.2 hb.size⟩) (fun _ o g _ hv=>(hb.cell (p:=⟨_,o,none⟩) g.2).trans hv)
theorem At.low {lo lo':Nat} {w:World} {sh:Sh} {v:Value} {lf:Lf} (h:At (Hi lo w) w sh v lf) (hl:lo'≤lo):At (Hi lo' w) w sh v lf:=h.weak (fun _ g=>⟨Nat.le_trans hl g.1,g.2⟩)
theorem At.toLo {lo:Nat} {w:World} {sh:Sh} {v:Value} {lf:Lf} (h:At (Hi lo w) w sh v lf):At (Lo w.heap.size) w sh v lf:=h.weak (fun _ g=>g.2)
theorem At.set {lo g o:Nat} {w:World} {u v:Value} {sh:Sh} {lf:Lf} (h:At (Hi lo w) w sh v lf) (hg:g<lo):At (Hi lo (w.setCell ⟨g,o,none⟩ u)) (w.setCell ⟨g,o,none⟩ u) sh v lf :=
 h.kept (fun _ q=>⟨q.1,by rw [setCell_size];exact q.2⟩) (fun b _ q _ hv=>by
  rw [World.cell?_setCell_other _ _ _ _ (fun e=>by have:=congrArg Addr.block e;simp at this;omega)];exact hv)
theorem At.nilRow {S:Nat→Prop} {w:World} (k:Kd) (p:Option Addr) (cap:Nat):At S w (.r k) (.slice p 0 cap) (.row k []) :=
 .row k [] p cap (fun _ _=>.bool false) (by simp) (by simp) (fun h=>by simp at h) (fun _ _ h=>by simp at h) (fun _ _ _ _ _ h=>by simp at h)
abbrev cv (nm par:ByteArray) (f b:Value):Value:=.agg #[.string nm,.string par,f,b]
structure CV (S:Nat→Prop) (w:World) (pf:Option Addr) (cf:Nat) (pb:Option Addr) (cb:Nat) (c:Cl):Prop where
 nm:c.nm.size≤140737488351232
 par:c.par.size≤140737488351232
 fs:At S w (.r .fields) (.slice pf c.fs.length cf) (.row .fields (c.fs.map Fld.lf))
 bs:At S w (.r .blocks) (.slice pb c.bs.length cb) (.row .blocks (c.bs.map Bk.lf))
theorem CV.kept {S S':Nat→Prop} {w w':World} (hS:∀ b,S b→S' b) (hk:∀ b o,S b→∀ v,w.cell? ⟨b,o,none⟩=some v→w'.cell? ⟨b,o,none⟩=some v) {pf:Option Addr} {cf:Nat} {pb:Option Addr} {cb:Nat} {c:Cl} (h:CV S w pf cf pb cb c):CV S' w' pf cf pb cb c :=
 ⟨h.nm,h.par,h.fs.kept hS hk,h.bs.kept hS hk⟩
theorem CV.under {N:Nat} {w w':World} (hb:Below N w w') {pf:Option Addr} {cf:Nat} {pb:Option Addr} {cb:Nat} {c:Cl} (h:CV (Lo N) w pf cf pb cb c):CV (Lo N) w' pf cf pb cb c:=⟨h.nm,h.par,h.fs.under hb,h.bs.under hb⟩
theorem CV.wide {N N':Nat} {w:World} (hN:N≤N') {pf:Option Addr} {cf:Nat} {pb:Option Addr} {cb:Nat} {c:Cl} (h:CV (Lo N) w pf cf pb cb c):CV (Lo N') w pf cf pb cb c:=⟨h.nm,h.par,h.fs.wide hN,h.bs.wide hN⟩
theorem CV.zero (S:Nat→Prop) (w:World):CV S w none 0 none 0 zCl:=⟨by decide,by decide,.nilRow _ _ _,.nilRow _ _ _⟩
theorem RowA.fd {S:Nat→Prop} {w:World} {p:Option Addr} {cap:Nat} {F:Nat→Nat→Value} {fs:List Fld} (h:RowA S w .fields p cap F (fs.map Fld.lf)) {i:Nat} {f:Fld} (hi:fs[i]? = some f) :
  ∃ b off,p=some ⟨b,off,none⟩∧S b∧w.cell? ⟨b,off+i*5,none⟩=some (.string f.nm)∧w.cell? ⟨b,off+i*5+1,none⟩=some (.int .i64 f.wd) ∧
   w.cell? ⟨b,off+i*5+2,none⟩=some (.int .i64 f.sz)∧w.cell? ⟨b,off+i*5+3,none⟩=some (.int .i64 f.md)∧w.cell? ⟨b,off+i*5+4,none⟩=some (.int .i64 f.ini)∧f.nm.size≤140737488351232:=by
 have hil:=(List.getElem?_eq_some_iff.1 hi).1;have hll:i<(fs.map Fld.lf).length:=(by rw [List.length_map];exact hil);have hg:(fs.map Fld.lf)[i]? = some f.lf:=(by rw [List.getElem?_map,hi];rfl);obtain⟨b,off,rfl,hb,hcell⟩:=h.hp (by omega);obtain⟨e0,s0⟩:=(h.hx i _ 0 _ .s hg rfl rfl).sOf;have e1:=(h.hx i _ 1 _ .n hg rfl rfl).nOf;have e2:=(h.hx i _ 2 _ .n hg rfl rfl).nOf;have e3:=(h.hx i _ 3 _ .n hg rfl rfl).nOf;have e4:=(h.hx i _ 4 _ .n hg rfl rfl).nOf;have c0:=hcell i 0 hll (by decide);have c1:=hcell i 1 hll (by decide);have c2:=hcell i 2 hll (by decide);have c3:=hcell i 3 hll (by decide);have c4:=hcell i 4 hll (by decide);rw [e0] at c0;rw [e1] at c1;rw [e2] at c2;rw [e3] at c3;rw [e4] at c4;exact⟨b,off,rfl,hb,c0,c1,c2,c3,c4,s0⟩
theorem RowA.bk {S:Nat→Prop} {w:World} {p:Option Addr} {cap:Nat} {F:Nat→Nat→Value} {bs:List Bk} (h:RowA S w .blocks p cap F (bs.map Bk.lf)) {i:Nat} {b:Bk} (hi:bs[i]? = some b) :
  ∃ g off pi ci,p=some ⟨g,off,none⟩∧S g∧w.cell? ⟨g,off+i*2,none⟩=some (.string b.nm)∧w.cell? ⟨g,off+i*2+1,none⟩=some (.slice pi b.it.length ci) ∧
   b.nm.size≤140737488351232∧At S w (.r .items) (.slice pi b.it.length ci) (.row .items b.it):=by
 have hil:=(List.getElem?_eq_some_iff.1 hi).1;have hll:i<(bs.map Bk.lf).length:=(by rw [List.length_map];exact hil);have hg:(bs.map Bk.lf)[i]? = some b.lf:=(by rw [List.getElem?_map,hi];rfl);obtain⟨g,off,rfl,hb,hcell⟩:=h.hp (by omega);obtain⟨e0,s0⟩:=(h.hx i _ 0 _ .s hg rfl rfl).sOf;have a1:=h.hx i _ 1 _ (.r .items) hg rfl rfl;obtain⟨pi,ci,_,e1,_⟩:=a1.rowOf;rw [e1] at a1;have c0:=hcell i 0 hll (by decide);have c1:=hcell i 1 hll (by decide);rw [e0] at c0;rw [e1] at c1;exact⟨g,off,pi,ci,rfl,hb,c0,c1,s0,a1⟩
theorem RowA.st {S:Nat→Prop} {w:World} {p:Option Addr} {cap:Nat} {F:Nat→Nat→Value} {l:List (List Lf)} (h:RowA S w .strs p cap F l) {i:Nat} {x:List Lf} (hi:l[i]? = some x) :
  ∃ b off s,x=[.s s]∧p=some ⟨b,off,none⟩∧S b∧w.cell? ⟨b,off+i,none⟩=some (.string s)∧s.size≤140737488351232:=by
 have hil:=(List.getElem?_eq_some_iff.1 hi).1;obtain⟨b,off,rfl,hb,hcell⟩:=h.hp (by omega);have hw:=h.hw i x hi;match x,hw with
 | [y],_ =>
  obtain⟨s,e0,rfl,s0⟩:=(h.hx i _ 0 y .s hi rfl rfl).sInv;have c0:=hcell i 0 hil (by decide);rw [e0] at c0;have e:off+i*(shp Kd.strs).length+0=off+i:=(by simp [shp]);rw [e] at c0;exact⟨b,off,s,rfl,rfl,hb,c0,s0⟩
theorem RowA.wt {S:Nat→Prop} {w:World} {p:Option Addr} {cap:Nat} {F:Nat→Nat→Value} {l:List (List Lf)} (h:RowA S w .weights p cap F l) {i:Nat} {x:List Lf} (hi:l[i]? = some x) :
  ∃ b off a c d e,x=[.n a,.n c,.n d,.b e]∧p=some ⟨b,off,none⟩∧S b∧w.cell? ⟨b,off+i*4,none⟩=some (.int .i64 a)∧w.cell? ⟨b,off+i*4+1,none⟩=some (.int .i64 c)∧w.cell? ⟨b,off+i*4+2,none⟩=some (.int .i64 d)∧w.cell? ⟨b,off+i*4+3,none⟩=some (.bool e):=by
 have hil:=(List.getElem?_eq_some_iff.1 hi).1;obtain⟨b,off,rfl,hb,hcell⟩:=h.hp (by omega);have hw:=h.hw i x hi;match x,hw with
 | [y0,y1,y2,y3],_ =>
  obtain⟨a,e0,rfl⟩:=(h.hx i _ 0 y0 .n hi rfl rfl).nInv;obtain⟨c,e1,rfl⟩:=(h.hx i _ 1 y1 .n hi rfl rfl).nInv;obtain⟨d,e2,rfl⟩:=(h.hx i _ 2 y2 .n hi rfl rfl).nInv;obtain⟨e,e3,rfl⟩:=(h.hx i _ 3 y3 .b hi rfl rfl).bInv;have c0:=hcell i 0 hil (by decide);have c1:=hcell i 1 hil (by decide);have c2:=hcell i 2 hil (by decide);have c3:=hcell i 3 hil (by decide);rw [e0] at c0;rw [e1] at c1;rw [e2] at c2;rw [e3] at c3;exact⟨b,off,a,c,d,e,rfl,rfl,hb,c0,c1,c2,c3⟩
structure ItL where
 kd:Int
 op:Int
 n:Int
 en:ByteArray
 ea:List (List Lf)
 nm:ByteArray
 ix:ByteArray
 ws:List (List Lf)
 it:List (List Lf)
 el:List (List Lf)
 bf:List (List Lf)
 af:List (List Lf)
def ItL.lf (x:ItL):List Lf:=[.n x.kd,.n x.op,.n x.n,.s x.en,.row .exprs x.ea,.s x.nm,.s x.ix,.row .weights x.ws,.row .items x.it,.row .items x.el,.row .strs x.bf,.row .strs x.af]
structure ItP where
 p4:Option Addr
 c4:Nat
 p7:Option Addr
 c7:Nat
 p8:Option Addr
 c8:Nat
 p9:Option Addr
 c9:Nat
 p10:Option Addr
 c10:Nat
 p11:Option Addr
 c11:Nat
structure IV (S:Nat→Prop) (w:World) (q:ItP) (x:ItL):Prop where
 en:x.en.size≤140737488351232
 nm:x.nm.size≤140737488351232
 ix:x.ix.size≤140737488351232
 ea:At S w (.r .exprs) (.slice q.p4 x.ea.length q.c4) (.row .exprs x.ea)
 ws:At S w (.r .weights) (.slice q.p7 x.ws.length q.c7) (.row .weights x.ws)
 it:At S w (.r .items) (.slice q.p8 x.it.length q.c8) (.row .items x.it)
 el:At S w (.r .items) (.slice q.p9 x.el.length q.c9) (.row .items x.el)
 bf:At S w (.r .strs) (.slice q.p10 x.bf.length q.c10) (.row .strs x.bf)
 af:At S w (.r .strs) (.slice q.p11 x.af.length q.c11) (.row .strs x.af)
theorem IV.kept {S S':Nat→Prop} {w w':World} (hS:∀ b,S b→S' b) (hk:∀ b o,S b→∀ v,w.cell? ⟨b,o,none⟩=some v→w'.cell? ⟨b,o,none⟩=some v) {q:ItP} {x:ItL} (h:IV S w q x):IV S' w' q x :=
 ⟨h.en,h.nm,h.ix,h.ea.kept hS hk,h.ws.kept hS hk,h.it.kept hS hk,h.el.kept hS hk,h.bf.kept hS hk,h.af.kept hS hk⟩
theorem IV.under {N:Nat} {w w':World} (hb:Below N w w') {q:ItP} {x:ItL} (h:IV (Lo N) w q x):IV (Lo N) w' q x :=
 h.kept (fun _ h=>h) (fun b o hlt _ hv=>(hb.cell (p:=⟨b,o,none⟩) hlt).trans hv)
end ClW
namespace ClW
open Go Go.RowKit NumM LexW LexM ClM
theorem same_walk {a b:ByteArray} {v:Bool} (h:same a b=v):(a.toList == b.toList)=v:=by
 unfold same at h;rw [Lib.toList_data,Lib.toList_data];exact h
theorem RowA.take {S:Nat→Prop} {w:World} {k:Kd} {p:Option Addr} {cap:Nat} {G:Nat→Nat→Value} {l:List (List Lf)} (h:RowA S w k p cap G l) (i:Nat) (hi:i≤l.length):RowA S w k p cap G (l.take i):=by
 have hl:(l.take i).length=i:=(by rw [List.length_take];omega);refine⟨Nat.le_trans (Nat.mul_le_mul_right _ (by omega)) h.hl,by have:=h.hc;omega,fun h0=>?_,fun j x hx=>?_,fun j x m y sh hx hy hs=>?_⟩
 ·obtain⟨b,off,e,hb,hc⟩:=h.hp (by omega);exact⟨b,off,e,hb,fun a j ha hj=>hc a j (by omega) hj⟩
 ·rw [List.getElem?_take] at hx;split at hx
  ·exact h.hw j x hx
  ·cases hx
 ·rw [List.getElem?_take] at hx;split at hx
  ·exact h.hx j x m y sh hx hy hs
  ·cases hx
def idxI (o:Option Nat):Int:=match o with | some i=>i | none=>-1
theorem any_at {α:Type} {l:List α} {q:α→Bool} {k:Nat} {x:α} (h:l[k]? = some x) (hq:q x=true):l.any q=true:=List.any_eq_true.2 ⟨x,List.mem_of_getElem? h,hq⟩
theorem any_next {α:Type} {l:List α} {q:α→Bool} {k:Nat} {x:α} (h:l[k]? = some x) (hq:q x=false) (hn:(l.take k).any q=false):(l.take (k+1)).any q=false:=by
 obtain⟨hk,he⟩:=List.getElem?_eq_some_iff.1 h;rw [List.take_succ_eq_append_getElem hk,List.any_append,hn,he];simp [hq]
theorem idx_at {α:Type} {l:List α} {q:α→Bool} {k:Nat} {x:α} (h:l[k]? = some x) (hq:q x=true) (hn:(l.take k).findIdx? q=none):l.findIdx? q=some k:=by
 obtain⟨hk,he⟩:=List.getElem?_eq_some_iff.1 h;rw [←List.take_append_drop k l,List.findIdx?_append,hn,List.drop_eq_getElem_cons hk,he,List.findIdx?_cons,hq];simp;omega
theorem idx_next {α:Type} {l:List α} {q:α→Bool} {k:Nat} {x:α} (h:l[k]? = some x) (hq:q x=false) (hn:(l.take k).findIdx? q=none):(l.take (k+1)).findIdx? q=none:=by
 obtain⟨hk,he⟩:=List.getElem?_eq_some_iff.1 h;rw [List.take_succ_eq_append_getElem hk,List.findIdx?_append,hn,he,List.findIdx?_cons,hq];simp
end ClW
namespace ClW
open Go Go.RowKit NumM LexW LexM ClM
open Go.«Sort»
theorem reB {P:Program} {f:FuncId} {args:Array Value} {w:World} {v:Value} (C:∀ W,Below w.heap.size w W→Calls P f args W fun e w'=>e=.returned v∧Below W.heap.size W w') (d:Nat) (os:Array Obj) :
  Calls P f args (grow (redrawn w d) os) fun e w''=>e=.returned v∧∃ p:Regrown,w''=grow (redrawn w p.d) p.os :=
 Calls.regrown_of (C _ (below_regrown w d os))
structure Blk (w:World) (g:Nat) (xs:List Value):Prop where
 lt:g<w.heap.size
 c:∀ (i:Nat) (x:Value),xs[i]? = some x→w.cell? ⟨g,i,none⟩=some x
 f:∀ o:Nat,w.frozen? ⟨g,o,none⟩=false
section
variable {w W0:World} {g:Nat} {xs:List Value}
theorem Blk.new (w:World) (xs:List Value) (t:TypeId):Blk (w.alloc (.cells xs.toArray t)) w.heap.size xs:=by
 have hb:(w.alloc (.cells xs.toArray t)).heap[w.heap.size]? = some (.cells xs.toArray t):=heap_alloc_new _ _;exact⟨by simp,fun i x hx=>(alloc_cells w xs.toArray t i x (by simpa using hx)).1,fun o=>by simp only [World.frozen?,hb];simp⟩
theorem Blk.at_ {n:Nat} (hn:w.heap.size=n) (xs:List Value) (t:TypeId):Blk (w.alloc (.cells xs.toArray t)) n xs:=by subst hn;exact Blk.new w xs t
theorem Blk.stay (h:Blk W0 g xs) (hb:Below W0.heap.size W0 w):Blk w g xs :=
 ⟨Nat.lt_of_lt_of_le h.lt hb.size,fun i x hx=>(hb.cell (p:=⟨g,i,none⟩) h.lt).trans (h.c i x hx),fun o=>(hb.frozen (p:=⟨g,o,none⟩) h.lt).trans (h.f o)⟩
theorem Blk.alloc (h:Blk w g xs) (o:Obj):Blk (w.alloc o) g xs:=h.stay ((Below.refl _ _).alloc (Nat.le_refl _) _)
theorem Blk.set (h:Blk w g xs) (i:Nat) (v:Value) (hi:i<xs.length):Blk (w.setCell ⟨g,i,none⟩ v) g (xs.set i v):=by
 refine⟨by rw [setCell_size];exact h.lt,fun j x hx=>?_,fun o=>by rw [World.frozen?_setCell];exact h.f o⟩;rw [List.getElem?_set] at hx;split at hx
 ·rename_i e;subst e;obtain rfl:v=x:=(by simpa [hi] using hx);exact cell_set (h.c i _ (List.getElem?_eq_getElem hi))
 ·rename_i e;rw [other _ _ e];exact h.c j x hx
theorem Blk.grown {row:Option Nat} {w':World} (h:Blk w g xs) (hg:w.grownBy w' row) (hr:some g≠row):Blk w' g xs:=by
 have hb:=hg.block g h.lt hr;exact⟨Nat.lt_of_lt_of_le h.lt hg.size,fun i x hx=>(World.cell?_of_block (w:=w) hb).trans (h.c i x hx),fun o=>(World.frozen?_of_block (w:=w) hb).trans (h.f o)⟩
end
def tInt (n:Int) (w:World) (e:Ending) (w':World):Prop:=e=.returned (.int .i64 n)∧Below w.heap.size w w'
theorem tInt_mk {a n:Int} {w w':World} (h:a=n) (hb:Below w.heap.size w w'):tInt n w (.returned (.int .i64 a)) w':=by subst h;exact⟨rfl,hb⟩
theorem ba (w:World) (o:Obj):Below w.heap.size w (w.alloc o):=(Below.refl _ _).alloc (Nat.le_refl _) _
theorem nameS_eq (l:List UInt8):nameS l=nmB l:=name_iff l
theorem isNm_any (s:ByteArray) (w:World) (hs:s.size≤140737488351232) (ht:Tab w):Calls Tryz.prog 49 #[.string s] w (tBool (!bad s) w):=by
 have:=isName_any s w hs ht;rw [nameS_eq] at this;unfold bad;rw [Bool.not_not];exact this
theorem isNo_any (s:ByteArray) (w:World) (hs:s.size≤140737488351232) (ht:Tab w):Calls Tryz.prog 55 #[.string s] w (tBool (bad s) w):=by
 have NC:=Lh (isNm_any s w hs ht);generalize bad s=q at *
 cases q
 all_goals
  go_enter Tryz.func55,Tryz.ntmps55
  go_wp2_with (go_at_call 49;((with_reducible refine NC.out.mono ?_);rintro e w1 ⟨rfl,hb⟩;have HB:=Lh hb;clear hb))
  go_ret;exact⟨rfl,HB.out⟩
theorem isMode_any (m:Int) (w:World):Calls Tryz.prog 90 #[.int .i64 m] w fun e w'=>e=.returned (.bool (decide (0≤m∧m≤2)))∧w=w':=by
 by_cases h:0≤m∧m≤2
 ·rw [decide_eq_true h];obtain rfl | rfl | rfl:m=0∨m=1∨m=2:=by omega
  all_goals
   go_enter Tryz.func90,Tryz.ntmps90
   go_wp2;go_ret;exact⟨rfl,rfl⟩
 ·rw [decide_eq_false h];have h0:(m == 0)=false:=(by rw [beq_eq_false_iff_ne];omega);have h1:(m == 1)=false:=(by rw [beq_eq_false_iff_ne];omega);have h2:(m == 2)=false:=(by rw [beq_eq_false_iff_ne];omega);clear h
  go_enter Tryz.func90,Tryz.ntmps90
  go_wp2;go_ret;exact⟨rfl,rfl⟩
abbrev fv (nm:ByteArray) (wd sz md ini:Int):Value:=.agg #[.string nm,.int .i64 wd,.int .i64 sz,.int .i64 md,.int .i64 ini]
abbrev bv (nm:ByteArray) (it:Value):Value:=.agg #[.string nm,it]
theorem width_cases {wd:Int} (h:1≤wd∧wd≤8):wd=1∨wd=2∨wd=3∨wd=4∨wd=5∨wd=6∨wd=7∨wd=8:=by omega
theorem great_any (nm:ByteArray) (wd sz md ini:Int) (w:World) (h:1≤wd∧wd≤8):Calls Tryz.prog 91 #[fv nm wd sz md ini] w (tInt (maxI ⟨nm,wd,sz,md,ini⟩) w):=by
 have F0:=Blk.new w [.string nm,.int .i64 wd,.int .i64 sz,.int .i64 md,.int .i64 ini] 55;have c1:=F0.c 1 _ rfl;have c3:=F0.c 3 _ rfl;have HB:=Lh (ba w (.cells #[.string nm,.int .i64 wd,.int .i64 sz,.int .i64 md,.int .i64 ini] 55));clear F0;by_cases hm:md=0
 ·subst hm;obtain rfl | rfl | rfl | rfl | rfl | rfl | rfl | rfl:=width_cases h
  all_goals
   clear h
   go_enter Tryz.func91,Tryz.ntmps91
   go_wp2;go_ret;exact⟨rfl,HB.out⟩
 ·have h0:(md == 0)=false:=(by rw [beq_eq_false_iff_ne];exact hm);have E:Hid (maxI ⟨nm,wd,sz,md,ini⟩=0):=Lh (if_neg hm);clear hm
  go_enter Tryz.func91,Tryz.ntmps91
  go_wp2;go_ret;exact tInt_mk E.out.symm HB.out
theorem fName_any (nm:ByteArray) (wd sz md ini:Int) (w:World):Calls Tryz.prog 58 #[fv nm wd sz md ini] w fun e w'=>e=.returned (.string nm)∧Below w.heap.size w w':=by
 have F0:=Blk.new w [.string nm,.int .i64 wd,.int .i64 sz,.int .i64 md,.int .i64 ini] 55;have c0:=F0.c 0 _ rfl;have HB:=Lh (ba w (.cells #[.string nm,.int .i64 wd,.int .i64 sz,.int .i64 md,.int .i64 ini] 55));clear F0
 go_enter Tryz.func58,Tryz.ntmps58
 go_wp2;go_ret;exact⟨rfl,HB.out⟩
theorem bName_any (nm:ByteArray) (v:Value) (w:World):Calls Tryz.prog 53 #[bv nm v] w fun e w'=>e=.returned (.string nm)∧Below w.heap.size w w':=by
 have F0:=Blk.new w [.string nm,v] 57;have c0:=F0.c 0 _ rfl;have HB:=Lh (ba w (.cells #[.string nm,v] 57));clear F0
 go_enter Tryz.func53,Tryz.ntmps53
 go_wp2;go_ret;exact⟨rfl,HB.out⟩
theorem large_any (nm par:ByteArray) (pf:Option Addr) (kf cf:Nat) (pb:Option Addr) (kb cb:Nat) (w:World) (hf:kf≤140737488351232) (hb:kb≤140737488351232) :
  Calls Tryz.prog 50 #[cv nm par (.slice pf kf cf) (.slice pb kb cb)] w (tBool (decide (16<kf)||decide (16<kb)) w):=by
 have F0:=Blk.new w [.string nm,.string par,.slice pf kf cf,.slice pb kb cb] 32;have c2:=F0.c 2 _ rfl;have c3:=F0.c 3 _ rfl;have HB:=Lh (ba w (.cells #[.string nm,.string par,.slice pf kf cf,.slice pb kb cb] 32));clear F0;by_cases h:16<kf
 ·rw [show (decide (16<kf)||decide (16<kb))=true by rw [decide_eq_true h];rfl]
  go_enter Tryz.func50,Tryz.ntmps50
  go_wp2;go_ret;exact⟨rfl,HB.out⟩
 ·by_cases h2:16<kb
  ·rw [show (decide (16<kf)||decide (16<kb))=true by rw [decide_eq_true h2,Bool.or_true]];have d1:decide ((16:Int)<kf)=false:=decide_eq_false (by omega);have d2:decide ((16:Int)<kb)=true:=decide_eq_true (by omega)
   go_enter Tryz.func50,Tryz.ntmps50
   go_wp2;go_ret;exact⟨rfl,HB.out⟩
  ·rw [show (decide (16<kf)||decide (16<kb))=false by rw [decide_eq_false h,decide_eq_false h2];rfl];have d1:decide ((16:Int)<kf)=false:=decide_eq_false (by omega);have d2:decide ((16:Int)<kb)=false:=decide_eq_false (by omega)
   go_enter Tryz.func50,Tryz.ntmps50
   go_wp2;go_ret;exact⟨rfl,HB.out⟩
end ClW
namespace ClW
open Go Go.RowKit NumM LexW LexM ClM
open Go.«Sort»
theorem own_block {w:World} {B:Nat} {e:TypeId} {size:Nat} {v:Value} {n:Nat} {xs:List Value} (h:w.ownsRow B e size v n xs):∀ k,v.ownBlock=some k→B≤k:=fun k hk=>(h.lt k hk).1
theorem own_len {w:World} {base:Nat} {e:TypeId} {size n:Nat} {v:Value} {xs:List Value} (h:w.ownsRow base e size v n xs):∃ q c,v=.slice q n c:=by
 rcases h.2 with ⟨rfl,rfl⟩ | ⟨g,cap,cur,rfl,_⟩
 ·exact⟨_,_,rfl⟩
 ·exact⟨_,_,rfl⟩
theorem own_later {w w':World} {B:Nat} {e:TypeId} {size:Nat} {v:Value} {n:Nat} {xs:List Value} (h:w.ownsRow B e size v n xs) (hb:Below w.heap.size w w'):w'.ownsRow B e size v n xs:=by
 obtain⟨hl,h | ⟨g,cap,cur,hv,hB,hg,h1,h2,h3,h4⟩⟩:=h
 ·exact⟨hl,.inl h⟩
 ·exact⟨hl,.inr ⟨g,cap,cur,hv,hB,(hb.block g (Array.getElem?_eq_some_iff.1 hg).1).trans hg,h1,h2,h3,h4⟩⟩
theorem own_grown {w w':World} {base:Nat} {e:TypeId} {size n:Nat} {v:Value} {xs:List Value} {row:Option Nat} (h:w.ownsRow base e size v n xs) (hg:w.grownBy w' row) (hr:∀ b,v.ownBlock=some b→row≠some b):w'.ownsRow base e size v n xs :=
 World.ownsRow.kept h hg (by
  cases hv:v.ownBlock with
  | none=>exact .inl rfl
  | some b=>exact .inr (fun e=>hr b hv e.symm))
theorem own_low {w:World} {B B':Nat} {e:TypeId} {size:Nat} {v:Value} {n:Nat} {xs:List Value} (h:w.ownsRow B e size v n xs) (hb:B'≤B):w.ownsRow B' e size v n xs:=by
 obtain⟨hl,h | ⟨g,cap,cur,hv,hB,rest⟩⟩:=h
 ·exact⟨hl,.inl h⟩
 ·exact⟨hl,.inr ⟨g,cap,cur,hv,Nat.le_trans hb hB,rest⟩⟩
theorem own_cells {w:World} {B:Nat} {e:TypeId} {size:Nat} {p:Option Addr} {n cap:Nat} {xs:List Value} (h:w.ownsRow B e size (.slice p n cap) n xs) (hn:0<n):∃ g,p=some ⟨g,0,none⟩∧B≤g∧g<w.heap.size∧∀ o,o<n*size→w.cell? ⟨g,0+o,none⟩=some (xs.getD o undef):=by
 obtain⟨hl,⟨_,h0⟩ | ⟨g,cap',cur,hv,hB,hg,h1,h2,h3,h4⟩⟩:=h
 ·omega
 ·cases hv;refine⟨g,rfl,hB,(Array.getElem?_eq_some_iff.1 hg).1,fun o ho=>?_⟩;have hc:cur.toList[o]? = xs[o]?:=by
   rw [←h4,List.getElem?_take,if_pos ho]
  have hx:xs[o]? = some (xs.getD o undef):=by
   rw [List.getD_eq_getElem?_getD,List.getElem?_eq_getElem (by omega)];rfl
  rw [hx] at hc;simp only [World.cell?,hg,Nat.zero_add]
  simpa using hc
theorem own_cap {w:World} {B:Nat} {e:TypeId} {size:Nat} {p:Option Addr} {n cap:Nat} {xs:List Value} (h:w.ownsRow B e size (.slice p n cap) n xs):n≤cap:=by
 obtain⟨hl,⟨hv,h0⟩ | ⟨g,cap',cur,hv,hB,hg,h1,h2,h3,h4⟩⟩:=h
 ·cases hv;omega
 ·cases hv;exact h1
theorem rowA_own {S:Nat→Prop} {w:World} {B:Nat} {e:TypeId} {k:Kd} {p:Option Addr} {n cap:Nat} {xs:List Value} {l:List (List Lf)} (h:w.ownsRow B e (shp k).length (.slice p n cap) n xs) (hl:l.length=n) (hb:n*byt k≤140737488351232)
  (hw:∀ (i:Nat) (x:List Lf),l[i]? = some x→x.length=(shp k).length)
  (hx:∀ (i:Nat) (x:List Lf) (j:Nat) (y:Lf) (sh:Sh),l[i]? = some x→x[j]? = some y→(shp k)[j]? = some sh→At S w sh (xs.getD (i*(shp k).length+j) undef) y)
  (hS:∀ g,B≤g→g<w.heap.size→(Value.slice p n cap).ownBlock=some g→S g):RowA S w k p cap (fun i j=>xs.getD (i*(shp k).length+j) undef) l:=by
 refine⟨by rw [hl];exact hb,by rw [hl];exact own_cap h,fun h0=>?_,hw,hx⟩;obtain⟨g,rfl,hB,hg,hc⟩:=own_cells h (by omega);refine⟨g,0,rfl,hS g hB hg rfl,fun i j hi hj=>?_⟩;have:=hc (i*(shp k).length+j) (by
  have:(i+1)*(shp k).length≤n*(shp k).length:=Nat.mul_le_mul_right _ (by omega);rw [Nat.succ_mul] at this;omega)
 rw [←Nat.add_assoc] at this;exact this
def SL (l:List ByteArray):List (List Lf):=l.map (fun s=>[Lf.s s])
theorem SL_len (l:List ByteArray):(SL l).length=l.length:=by simp [SL]
theorem SL_at {l:List ByteArray} {i:Nat} {x:List Lf} (h:(SL l)[i]? = some x):∃ s,l[i]? = some s∧x=[.s s]:=by
 unfold SL at h;rw [List.getElem?_map] at h;obtain⟨s,hs,rfl⟩:=Option.map_eq_some_iff.1 h;exact⟨s,hs,rfl⟩
def tStrs (l:List ByteArray) (w:World) (e:Ending) (w':World):Prop :=
 ∃ v,e=.returned v∧w'.ownsRow w.heap.size 9 1 v l.length (l.map Value.string)∧Below w.heap.size w w'
theorem strs_own {w:World} {B:Nat} {v:Value} {l:List ByteArray} (h:w.ownsRow B 9 1 v l.length (l.map Value.string)) (hs:∀ s∈l,s.size≤140737488351232) (hb:l.length*16≤140737488351232) :
  ∃ p cap G,v=.slice p l.length cap∧RowA (Hi B w) w .strs p cap G (SL l):=by
 obtain⟨p,cap,rfl⟩:=own_len h;refine⟨p,cap,_,rfl,rowA_own (k:=.strs) h (SL_len l) hb (fun i x hx=>?_) (fun i x j y sh hx hy hsh=>?_) (fun g h1 h2 _=>⟨h1,h2⟩)⟩
 ·obtain⟨s,_,rfl⟩:=SL_at hx;rfl
 ·obtain⟨s,hi,rfl⟩:=SL_at hx;match j,hy,hsh with
  | 0,hy,hsh =>
   cases hy;cases hsh;have e:(l.map Value.string).getD (i*(shp Kd.strs).length+0) undef=.string s:=by
    rw [List.getD_eq_getElem?_getD,show i*(shp Kd.strs).length+0=i by simp [shp],List.getElem?_map,hi];rfl
   rw [e];exact .s s (hs s (List.mem_of_getElem? hi))
  | j+1,hy,_=>simp at hy
theorem RowA.stS {S:Nat→Prop} {w:World} {p:Option Addr} {cap:Nat} {G:Nat→Nat→Value} {l:List ByteArray} (h:RowA S w .strs p cap G (SL l)) {i:Nat} {s:ByteArray} (hi:l[i]? = some s) :
  ∃ b off,p=some ⟨b,off,none⟩∧S b∧w.cell? ⟨b,off+i,none⟩=some (.string s)∧s.size≤140737488351232:=by
 have hx:(SL l)[i]? = some [.s s]:=(by unfold SL;rw [List.getElem?_map,hi];rfl);obtain⟨b,off,s',e,rfl,hb,hc,hs⟩:=h.st hx;cases e;exact⟨b,off,rfl,hb,hc,hs⟩
theorem RowA.toLo {lo:Nat} {w:World} {k:Kd} {p:Option Addr} {cap:Nat} {G:Nat→Nat→Value} {l:List (List Lf)} (h:RowA (Hi lo w) w k p cap G l):RowA (Lo w.heap.size) w k p cap G l:=h.kept (fun _ g=>g.2) (fun _ _ _ _ hv=>hv)
theorem infoS:(Tryz.prog.info? 9).map (fun i=>(i.zero,i.size,i.bytes))=some (some (.string ⟨#[]⟩),1,16):=by kernel_rfl
theorem cell_one_at {w:World} {B:Nat} (hB:w.heap.size=B) (x:Value) (t:TypeId):∀ j u,[x][j]? = some u→(w.alloc (.cells #[x] t)).cell? ((⟨B,0,none⟩:Addr).add j)=some u:=by
 subst hB;exact World.news_of_block (cs:=#[x]) (heap_alloc_new _ _)
theorem map_snoc {α β:Type} {f:α→β} {l:List α} {k:Nat} {x:α} (h:l[k]? = some x):(l.take (k+1)).map f=(l.take k).map f++[f x]:=by
 obtain⟨hk,he⟩:=List.getElem?_eq_some_iff.1 h;rw [List.take_succ_eq_append_getElem hk,List.map_append,he];rfl
theorem drewB {W w1:World} {n:Nat} (h:Below W.heap.size W w1):Below W.heap.size W (w1.drewN n):=⟨h.os,h.tape,h.output,h.size,h.block⟩
structure RowB (w:World) (g k K:Nat) (F:Nat→Nat→Value):Prop where
 lt:g<w.heap.size
 cell:∀ a r,a<K→r<k→w.cell? ⟨g,a*k+r,none⟩=some (F a r)
 frz:∀ o,w.frozen? ⟨g,o,none⟩=false
theorem RowB.stay {w w':World} {g k K:Nat} {F:Nat→Nat→Value} (h:RowB w g k K F) (hb:Below w.heap.size w w'):RowB w' g k K F :=
 ⟨Nat.lt_of_lt_of_le h.lt hb.size,fun a r ha hr=>(hb.cell (p:=⟨g,a*k+r,none⟩) h.lt).trans (h.cell a r ha hr),fun o=>(hb.frozen (p:=⟨g,o,none⟩) h.lt).trans (h.frz o)⟩
theorem RowB.alloc {w:World} {g k K:Nat} {F:Nat→Nat→Value} (h:RowB w g k K F) (o:Obj):RowB (w.alloc o) g k K F:=h.stay (ba w o)
structure Up (lo:Nat) (a b:World):Prop where
 size:a.heap.size≤b.heap.size
 blk:∀ g,lo≤g→g<a.heap.size→b.heap[g]? = a.heap[g]?
theorem Up.refl (lo:Nat) (a:World):Up lo a a:=⟨Nat.le_refl _,fun _ _ _=>rfl⟩
theorem Up.trans {lo:Nat} {a b c:World} (h:Up lo a b) (k:Up lo b c):Up lo a c:=⟨Nat.le_trans h.size k.size,fun g h1 h2=>(k.blk g h1 (Nat.lt_of_lt_of_le h2 h.size)).trans (h.blk g h1 h2)⟩
theorem Up.below {lo:Nat} {a b c:World} (h:Up lo a b) (k:Below b.heap.size b c):Up lo a c:=h.trans ⟨k.size,fun g _ h2=>k.block g h2⟩
theorem idxI_any {α:Type} (l:List α) (q:α→Bool):decide (0≤idxI (l.findIdx? q))=l.any q:=by
 cases h:l.findIdx? q with
 | none =>
  rw [List.findIdx?_eq_none_iff] at h;rw [decide_eq_false (by simp [idxI])]
  symm
  rw [List.any_eq_false];intro x hx;rw [h x hx];simp
 | some i =>
  rw [decide_eq_true (by simp [idxI])]
  symm
  cases ha:l.any q
  ·exfalso;rw [List.any_eq_false] at ha;rw [List.findIdx?_eq_none_iff.2 (fun x hx=>by simpa using ha x hx)] at h;cases h
  ·rfl
theorem noName_ix (l:List ByteArray) (q:ByteArray→Bool) (p:Option Addr) (cap:Nat) (G:Nat→Nat→Value) (N:Nat) (w:World) (ha:RowA (Lo N) w .strs p cap G (SL l)) (hN:N≤w.heap.size) (hq:∀ s∈l,∀ W,Below w.heap.size w W→s.size≤140737488351232→Calls Tryz.prog 55 #[.string s] W (tBool (q s) W)) :
  Calls Tryz.prog 92 #[.slice p l.length cap,.func (.func 55) #[] #[]] w (tInt (idxI (l.findIdx? q)) w):=by
 have HA:=Lh ha;have HQ:=Lh hq;have hl:=ha.hl;rw [SL_len] at hl;simp only [byt] at hl;obtain⟨K,hK⟩:∃ K,l.length=K:=⟨_,rfl⟩;have HK:=Lh hK;rw [hK] at hl ⊢;have hk:K≤140737488351232:=(by omega);clear hK ha hl hq;have HB0:=Lh (Below.refl w.heap.size w)
 go_enter Tryz.func92,Tryz.ntmps92
 go_wp2;go_loopw [8] (fun i wr=>∃ j:Nat,j≤K∧i=.int .i64 j∧Hid ((l.take j).findIdx? q=none)∧Hid (Below w.heap.size w wr)) (fun i _=>K - (intOf i).toNat)
 case atStart=>exact⟨0,Nat.zero_le _,rfl,Lh rfl,HB0⟩
 case round =>
  obtain⟨j,hj,rfl,FN,BW⟩:=hrel;by_cases hlt:j<K
  ·obtain⟨c,hc⟩:∃ c,l[j]? = some c:=⟨_,List.getElem?_eq_getElem (by rw [HK.out];exact hlt)⟩;have hbw:Below N w wr:=BW.out.mono hN;obtain⟨b,off,rfl,hb,c0,hsz⟩:=(HA.out.under hbw).stS hc;have CC:=Lh (HQ.out c (List.mem_of_getElem? hc) wr BW.out hsz);have HC:=Lh hc;clear hc hbw;cases hs:q c
   ·have FN2:=Lh (idx_next HC.out hs FN.out);rw [hs] at CC;clear hs;go_wp2_with (go_at_call 55;((with_reducible refine CC.out.mono ?_);rintro e w1 ⟨rfl,hb1⟩;have HB1:=Lh (BW.out.then_ hb1);clear hb1))
    go_roundw
    case rel=>exact⟨j+1,by omega,by go_num,FN2,HB1⟩
    case measure=>simp [intOf];omega
   ·have FS:=Lh (idx_at HC.out hs FN.out);rw [hs] at CC;clear hs;go_wp2_with (go_at_call 55;((with_reducible refine CC.out.mono ?_);rintro e w1 ⟨rfl,hb1⟩;have HB1:=Lh (BW.out.then_ hb1);clear hb1))
    go_ret;rw [FS.out];exact⟨rfl,HB1.out⟩
  ·have FN2:Hid (l.findIdx? q=none):=Lh (by have:=FN.out;rw [List.take_of_length_le (by rw [HK.out];omega)] at this;exact this);go_wp2;go_ret;rw [FN2.out];exact⟨rfl,BW.out⟩
theorem noName_has (l:List ByteArray) (q:ByteArray→Bool) (p:Option Addr) (cap:Nat) (G:Nat→Nat→Value) (N:Nat) (w:World) (ha:RowA (Lo N) w .strs p cap G (SL l)) (hN:N≤w.heap.size) (hq:∀ s∈l,∀ W,Below w.heap.size w W→s.size≤140737488351232→Calls Tryz.prog 55 #[.string s] W (tBool (q s) W)) :
  Calls Tryz.prog 54 #[.slice p l.length cap,.func (.func 55) #[] #[]] w (tBool (l.any q) w):=by
 have IC:=Lh (noName_ix l q p cap G N w ha hN hq);have EQ:=Lh (idxI_any l q);clear ha hq;generalize l.length=K at *
 generalize l.any q=c at *
 obtain⟨i,hi⟩:∃ i,idxI (l.findIdx? q)=i:=⟨_,rfl⟩;rw [hi] at IC EQ;clear hi
 go_enter Tryz.func54,Tryz.ntmps54
 go_wp2_with (go_at_call 92;((with_reducible refine IC.out.mono ?_);rintro e w1 ⟨rfl,hb⟩;have HB:=Lh hb;clear hb))
 go_ret;exact tBool_mk (by rw [←EQ.out]) HB.out
end ClW
end Go.Proofs.YtihnejaopejbgaaGreatDoor
