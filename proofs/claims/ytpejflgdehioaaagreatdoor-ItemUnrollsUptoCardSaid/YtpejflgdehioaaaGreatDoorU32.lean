/-
  Laws that the card uses; no conditions beside those that each states (ItAddR).
-/
import Derived.Test.YtpejflgdehioaaaGreatDoorU29
namespace Go.Proofs.YtpejflgdehioaaaGreatDoor
namespace ItW
open Go Go.RowKit NumM LexW LexM ExM ExW ItM
theorem setCell_comm (w:World) (a b:Addr) (u v:Value) (h:a.block≠b.block):(w.setCell a u).setCell b v=(w.setCell b v).setCell a u:=by
 have e:((w.setCell a u).setCell b v).heap=((w.setCell b v).setCell a u).heap:=by
  apply Array.ext_getElem?;intro k;simp only [World.setCell,Array.getElem?_modify];by_cases h1:a.block=k
  ·have h2:¬ b.block=k:=(fun e=>h (h1.trans e.symm));simp [h1,h2]
  ·by_cases h2:b.block=k
   ·simp [h1,h2]
   ·simp [h1,h2]
 show ({ w with heap:=((w.setCell a u).setCell b v).heap }:World) = { w with heap:=((w.setCell b v).setCell a u).heap };rw [e]
theorem comm12 {w:World} {g n xb o:Nat} (h:g≠xb) (u x0 x1 x2 x3 x4 x5 x6 x7 x8 x9 x10 x11:Value):(((((((((((((w.setCell ⟨xb,o,none⟩ u).setCell ⟨g,n*12,none⟩ x0).setCell ⟨g,n*12+1,none⟩ x1).setCell ⟨g,n*12+2,none⟩ x2).setCell ⟨g,n*12+3,none⟩ x3).setCell ⟨g,n*12+4,none⟩ x4).setCell ⟨g,n*12+5,none⟩ x5).setCell ⟨g,n*12+6,none⟩ x6).setCell ⟨g,n*12+7,none⟩ x7).setCell ⟨g,n*12+8,none⟩ x8).setCell ⟨g,n*12+9,none⟩ x9).setCell ⟨g,n*12+10,none⟩ x10).setCell ⟨g,n*12+11,none⟩ x11)=((((((((((((w.setCell ⟨g,n*12,none⟩ x0).setCell ⟨g,n*12+1,none⟩ x1).setCell ⟨g,n*12+2,none⟩ x2).setCell ⟨g,n*12+3,none⟩ x3).setCell ⟨g,n*12+4,none⟩ x4).setCell ⟨g,n*12+5,none⟩ x5).setCell ⟨g,n*12+6,none⟩ x6).setCell ⟨g,n*12+7,none⟩ x7).setCell ⟨g,n*12+8,none⟩ x8).setCell ⟨g,n*12+9,none⟩ x9).setCell ⟨g,n*12+10,none⟩ x10).setCell ⟨g,n*12+11,none⟩ x11).setCell ⟨xb,o,none⟩ u:=by
 have hc:∀ (V:World) (i:Nat) (x:Value),(V.setCell ⟨xb,o,none⟩ u).setCell ⟨g,i,none⟩ x=(V.setCell ⟨g,i,none⟩ x).setCell ⟨xb,o,none⟩ u:=(fun V i x=>setCell_comm _ _ _ _ _ (fun e=>h e.symm));rw [hc,hc,hc,hc,hc,hc,hc,hc,hc,hc,hc,hc]
theorem XL.push2 {xb fb n0:Nat} {W W1 w2 w3:World} {v:Value} {L:List Pc} {n g cap:Nat} {z0 z1 z2 z3 z4 z5 z6 z7 z8 z9 z10 z11:Value} {p:Pc} (h:XL xb fb n0 W v L) (hn:L.length=n) (hx0:n0≤xb) (hn0:n0≤W.heap.size) (hb1:Below W.heap.size W W1)
  (hown:w2.ownsRow n0 55 12 (.slice (some ⟨g,0,none⟩) (n+1) cap) (n+1) (L.flatMap pcC++[z0,z1,z2,z3,z4,z5,z6,z7,z8,z9,z10,z11])) (hg:W1.grownBy w2 v.ownBlock) (hat:v.ownBlock=some g∨g=W1.heap.size) (hb3:Below w2.heap.size w2 w3) (hgx:g≠xb)
  (hp:PcS (fun b=>(Av xb W b∨(W.heap.size≤b∧b≠g))∧b<w3.heap.size) w3 p) {x0 x1 x2 x3 x4 x5 x6 x7 x8 x9 x10 x11:Value} (hpc:pcC p=[x0,x1,x2,x3,x4,x5,x6,x7,x8,x9,x10,x11]) :
  XL xb fb n0 (((((((((((((w3.setCell ⟨xb,1,none⟩ (.slice (some ⟨g,0,none⟩) (n+1) cap)).setCell ⟨g,n*12,none⟩ x0).setCell ⟨g,n*12+1,none⟩ x1).setCell ⟨g,n*12+2,none⟩ x2).setCell ⟨g,n*12+3,none⟩ x3).setCell ⟨g,n*12+4,none⟩ x4).setCell ⟨g,n*12+5,none⟩ x5).setCell ⟨g,n*12+6,none⟩ x6).setCell ⟨g,n*12+7,none⟩ x7).setCell ⟨g,n*12+8,none⟩ x8).setCell ⟨g,n*12+9,none⟩ x9).setCell ⟨g,n*12+10,none⟩ x10).setCell ⟨g,n*12+11,none⟩ x11) (.slice (some ⟨g,0,none⟩) (n+1) cap) (L++[p]) ∧
  KX xb W (((((((((((((w3.setCell ⟨xb,1,none⟩ (.slice (some ⟨g,0,none⟩) (n+1) cap)).setCell ⟨g,n*12,none⟩ x0).setCell ⟨g,n*12+1,none⟩ x1).setCell ⟨g,n*12+2,none⟩ x2).setCell ⟨g,n*12+3,none⟩ x3).setCell ⟨g,n*12+4,none⟩ x4).setCell ⟨g,n*12+5,none⟩ x5).setCell ⟨g,n*12+6,none⟩ x6).setCell ⟨g,n*12+7,none⟩ x7).setCell ⟨g,n*12+8,none⟩ x8).setCell ⟨g,n*12+9,none⟩ x9).setCell ⟨g,n*12+10,none⟩ x10).setCell ⟨g,n*12+11,none⟩ x11)∧Below n0 W (((((((((((((w3.setCell ⟨xb,1,none⟩ (.slice (some ⟨g,0,none⟩) (n+1) cap)).setCell ⟨g,n*12,none⟩ x0).setCell ⟨g,n*12+1,none⟩ x1).setCell ⟨g,n*12+2,none⟩ x2).setCell ⟨g,n*12+3,none⟩ x3).setCell ⟨g,n*12+4,none⟩ x4).setCell ⟨g,n*12+5,none⟩ x5).setCell ⟨g,n*12+6,none⟩ x6).setCell ⟨g,n*12+7,none⟩ x7).setCell ⟨g,n*12+8,none⟩ x8).setCell ⟨g,n*12+9,none⟩ x9).setCell ⟨g,n*12+10,none⟩ x10).setCell ⟨g,n*12+11,none⟩ x11):=by
 rw [comm12 hgx];exact h.push hn hx0 hn0 hb1 hown hg hat hb3 hp hpc
theorem own_new {w:World} {n0 g n cap:Nat} {xs:List Value} {z0 z1 z2 z3 z4 z5 z6 z7 z8 z9 z10 z11:Value} (h:w.ownsRow n0 55 12 (.slice (some ⟨g,0,none⟩) (n+1) cap) (n+1) (xs++[z0,z1,z2,z3,z4,z5,z6,z7,z8,z9,z10,z11])) (hx:xs.length=n*12) :
  w.cell? ⟨g,n*12,none⟩=some z0∧w.cell? ⟨g,n*12+1,none⟩=some z1∧w.cell? ⟨g,n*12+2,none⟩=some z2∧w.cell? ⟨g,n*12+3,none⟩=some z3∧w.cell? ⟨g,n*12+4,none⟩=some z4∧w.cell? ⟨g,n*12+5,none⟩=some z5∧w.cell? ⟨g,n*12+6,none⟩=some z6∧w.cell? ⟨g,n*12+7,none⟩=some z7∧w.cell? ⟨g,n*12+8,none⟩=some z8∧w.cell? ⟨g,n*12+9,none⟩=some z9∧w.cell? ⟨g,n*12+10,none⟩=some z10∧w.cell? ⟨g,n*12+11,none⟩=some z11∧w.frozen? ⟨g,n*12,none⟩=false∧w.frozen? ⟨g,n*12+1,none⟩=false∧w.frozen? ⟨g,n*12+2,none⟩=false∧w.frozen? ⟨g,n*12+3,none⟩=false∧w.frozen? ⟨g,n*12+4,none⟩=false∧w.frozen? ⟨g,n*12+5,none⟩=false∧w.frozen? ⟨g,n*12+6,none⟩=false∧w.frozen? ⟨g,n*12+7,none⟩=false∧w.frozen? ⟨g,n*12+8,none⟩=false∧w.frozen? ⟨g,n*12+9,none⟩=false∧w.frozen? ⟨g,n*12+10,none⟩=false∧w.frozen? ⟨g,n*12+11,none⟩=false:=by
 have hc:∀ (r:Nat) (u:Value),[z0,z1,z2,z3,z4,z5,z6,z7,z8,z9,z10,z11][r]? = some u→r<12→w.cell? ⟨g,n*12+r,none⟩=some u:=fun r u hu hr=>by
  rw [World.ownsRow.cellAt h _ (by omega),List.getElem?_append_right (by omega),show n*12+r - xs.length=r by omega];exact hu
 have hf:=(fun o=>World.ownsRow.frozenAt h o);exact⟨hc 0 _ rfl (by decide),hc 1 _ rfl (by decide),hc 2 _ rfl (by decide),hc 3 _ rfl (by decide),hc 4 _ rfl (by decide),hc 5 _ rfl (by decide),hc 6 _ rfl (by decide),hc 7 _ rfl (by decide),hc 8 _ rfl (by decide),hc 9 _ rfl (by decide),hc 10 _ rfl (by decide),hc 11 _ rfl (by decide),hf _,hf _,hf _,hf _,hf _,hf _,hf _,hf _,hf _,hf _,hf _,hf _⟩
def Two2 (W0:World) (a b:Nat) (W:World):Prop:=W.heap[a]? = W0.heap[a]?∧W.heap[b]? = W0.heap[b]?
theorem Two2.alloc {W0 W:World} {a b:Nat} (h:Two2 W0 a b W) (ha:a<W.heap.size) (hb:b<W.heap.size) (o:Obj):Two2 W0 a b (W.alloc o):=⟨((ba W o).block a ha).trans h.1,((ba W o).block b hb).trans h.2⟩
theorem Two2.below {W0 W W':World} {a b:Nat} (h:Two2 W0 a b W) (ha:a<W.heap.size) (hb:b<W.heap.size) (k:Below W.heap.size W W'):Two2 W0 a b W':=⟨(k.block a ha).trans h.1,(k.block b hb).trans h.2⟩
theorem Two2.grown {W0 W W':World} {a b:Nat} {row:Option Nat} (h:Two2 W0 a b W) (ha:a<W.heap.size) (hb:b<W.heap.size) (k:W.grownBy W' row) (ra:row≠some a) (rb:row≠some b):Two2 W0 a b W':=⟨(k.block a ha (fun e=>ra e.symm)).trans h.1,(k.block b hb (fun e=>rb e.symm)).trans h.2⟩
theorem Two2.set {W0 W:World} {a b c i:Nat} (h:Two2 W0 a b W) (ha:a≠c) (hb:b≠c) (v:Value):Two2 W0 a b (W.setCell ⟨c,i,none⟩ v):=⟨(Below.heap_setCell _ _ _ _ ha).trans h.1,(Below.heap_setCell _ _ _ _ hb).trans h.2⟩
theorem Two2.set12 {W0 W:World} {a b g n:Nat} (h:Two2 W0 a b W) (ha:a≠g) (hb:b≠g) (x0 x1 x2 x3 x4 x5 x6 x7 x8 x9 x10 x11:Value):Two2 W0 a b ((((((((((((W.setCell ⟨g,n*12,none⟩ x0).setCell ⟨g,n*12+1,none⟩ x1).setCell ⟨g,n*12+2,none⟩ x2).setCell ⟨g,n*12+3,none⟩ x3).setCell ⟨g,n*12+4,none⟩ x4).setCell ⟨g,n*12+5,none⟩ x5).setCell ⟨g,n*12+6,none⟩ x6).setCell ⟨g,n*12+7,none⟩ x7).setCell ⟨g,n*12+8,none⟩ x8).setCell ⟨g,n*12+9,none⟩ x9).setCell ⟨g,n*12+10,none⟩ x10).setCell ⟨g,n*12+11,none⟩ x11) :=
 ⟨(heap12 ha x0 x1 x2 x3 x4 x5 x6 x7 x8 x9 x10 x11).trans h.1,(heap12 hb x0 x1 x2 x3 x4 x5 x6 x7 x8 x9 x10 x11).trans h.2⟩
def hardP (kd:Int) (U:Ex) (pE:Option Addr) (kE:Nat):Pc:=⟨hardI kd U,.slice pE U.args.length kE,.slice none 0 0,.slice none 0 0,.slice none 0 0⟩
theorem hardP_c (kd:Int) (U:Ex) (pE:Option Addr) (kE:Nat):pcC (hardP kd U pE kE)=[.int .i64 kd,.int .i64 U.op,.int .i64 U.n,.string U.nm,.slice pE U.args.length kE,.string ⟨#[]⟩,.string ⟨#[]⟩,.slice none 0 0,.slice none 0 0,.slice none 0 0,.slice none 0 0,.slice none 0 0]:=rfl
theorem hardP_s {xb fb n0 g:Nat} {W W1 w2:World} {v:Value} {L:List Pc} (h:XL xb fb n0 W v L) (hb1:Below W.heap.size W W1) (hg:W1.grownBy w2 v.ownBlock) (kd:Int) {U:Ex} {pE:Option Addr} {kE:Nat} (hx:ExS (Av xb W) W (xv U.op U.n U.nm (.slice pE U.args.length kE)) U) :
  PcS (fun b=>(Av xb W b∨(W.heap.size≤b∧b≠g))∧b<w2.heap.size) w2 (hardP kd U pE kE):=by
 have s1:=hb1.size;have s2:=hg.size;refine⟨(show (0:Nat)≤140737488351232 by decide),(show (0:Nat)≤140737488351232 by decide),exsEq (fun b q=>⟨⟨.inl q,by have:=q.1;omega⟩,?_⟩) hx,WtS.nil _ _,StS.nil _ _,StS.nil _ _,rfl,rfl⟩;have hbo:v.ownBlock≠some b:=(by have:=q.2.2;rw [h.own] at this;exact this);exact (hg.block b (by have:=q.1;omega) (fun e=>hbo e.symm)).trans (hb1.block b q.1)
theorem row_apart {xb fb n0 g H:Nat} {W:World} {v:Value} {L:List Pc} (h:XL xb fb n0 W v L) (hat:v.ownBlock=some g∨g=H) (hH:W.heap.size≤H):g≠xb∧∀ b,Av xb W b→b≠g∧v.ownBlock≠some b:=by
 have hl:=h.bx.lt;refine⟨?_,fun b q=>?_⟩
 ·rcases hat with e | e
  ·intro e2;subst e2;exact h.ne e
  ·omega
 ·have hbo:v.ownBlock≠some b:=(by have:=q.2.2;rw [h.own] at this;exact this);refine⟨?_,hbo⟩;rcases hat with e | e
  ·intro e2;subst e2;exact hbo e
  ·have:=q.1;omega
theorem fr_leaf {S S':Nat→Prop} {w w':World} (_:∀ b,S' b→S b∧w.heap[b]? = w'.heap[b]?):ExS S w (xv 0 0 ⟨#[]⟩ (.slice none 0 0)) zE:=ExS.leaf (by decide)
def outP (x:It) (a7 a10 a11:Value):Pc:=⟨outI x,.slice none 0 0,a7,a10,a11⟩
theorem outP_c (x:It) (a7 a10 a11:Value):pcC (outP x a7 a10 a11)=[.int .i64 x.kd,.int .i64 0,.int .i64 0,.string ⟨#[]⟩,.slice none 0 0,.string x.nm,.string ⟨#[]⟩,a7,.slice none 0 0,.slice none 0 0,a10,a11]:=rfl
theorem outP_s {xb fb n0 g:Nat} {W E w5 W1 w2:World} {v:Value} {L:List Pc} (h:XL xb fb n0 W v L) (hE:W.heap.size≤E.heap.size) (hb51:Below w5.heap.size w5 W1) (hg:W1.grownBy w2 v.ownBlock) (hat:v.ownBlock=some g∨g=W1.heap.size) {x:It} {a7 a10 a11:Value} (hn:x.nm.size≤140737488351232)
  (h7:WtS (Up E.heap.size w5) w5 a7 x.ws) (h10:StS (Up E.heap.size w5) w5 a10 x.bf) (h11:StS (Up E.heap.size w5) w5 a11 x.af) :
  PcS (fun b=>(Av xb W b∨(W.heap.size≤b∧b≠g))∧b<w2.heap.size) w2 (outP x a7 a10 a11):=by
 have s1:=hb51.size;have s2:=hg.size;have hk:∀ b,Up E.heap.size w5 b→((Av xb W b∨(W.heap.size≤b∧b≠g))∧b<w2.heap.size)∧w2.heap[b]? = w5.heap[b]?:=fun b q=>by
  have q1:E.heap.size≤b:=q.1;have q2:b<w5.heap.size:=q.2;have hbo:v.ownBlock≠some b:=(fun e=>by have:=h.lt b (by rw [h.own];exact e);omega);refine⟨⟨.inr ⟨by omega,?_⟩,by omega⟩,(hg.block b (by omega) (fun e=>hbo e.symm)).trans (hb51.block b q2)⟩;rcases hat with e | e
  ·intro e2;subst e2;exact hbo e
  ·omega
 exact⟨hn,(show (0:Nat)≤140737488351232 by decide),fr_leaf hk,wtsEq hk h7,stsEq hk h10,stsEq hk h11,rfl,rfl⟩
theorem one_12 (x0 x1 x2 x5 x6:Value) (h:∀ u∈[x0,x1,x2,x5,x6],u.oneCell'=true) {p4 p7 p8 p9 p10 p11:Option Addr} {n4 n7 n8 n9 n10 n11 c4 c7 c8 c9 c10 c11:Nat} {s:ByteArray} :
  ∀ u∈[x0,x1,x2,.string s,.slice p4 n4 c4,x5,x6,.slice p7 n7 c7,.slice p8 n8 c8,.slice p9 n9 c9,.slice p10 n10 c10,.slice p11 n11 c11],u.oneCell'=true:=by
 intro u hu;simp only [List.mem_cons,List.not_mem_nil,or_false] at hu;rcases hu with rfl | rfl | rfl | rfl | rfl | rfl | rfl | rfl | rfl | rfl | rfl | rfl<;>first | rfl | exact h _ (by simp)
end ItW
end Go.Proofs.YtpejflgdehioaaaGreatDoor
