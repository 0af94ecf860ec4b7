/-
  Laws that the card uses; no conditions beside those that each states (ItAddM).
-/
import Derived.Laws.OwnMore
import Derived.Test.YtpejflgdehioaaaGreatDoorU24
import Derived.Test.YtpejflgdehioaaaGreatDoorU27
namespace Go.Proofs.YtpejflgdehioaaaGreatDoor
namespace ItW
open Go Go.RowKit NumM LexW LexM ExM ExW ItM
structure Pc where
 x:It
 a4:Value
 a7:Value
 a10:Value
 a11:Value
def pcC (p:Pc):List Value:=ics p.x.kd p.x.e.op p.x.e.n p.x.e.nm p.a4 p.x.nm p.x.ix p.a7 (.slice none 0 0) (.slice none 0 0) p.a10 p.a11
theorem pcC_len (p:Pc):(pcC p).length=12:=rfl
structure PcS (S:Nat→Prop) (w:World) (p:Pc):Prop where
 nm:p.x.nm.size≤140737488351232
 ix:p.x.ix.size≤140737488351232
 ex:ExS S w (xv p.x.e.op p.x.e.n p.x.e.nm p.a4) p.x.e
 wt:WtS S w p.a7 p.x.ws
 bf:StS S w p.a10 p.x.bf
 af:StS S w p.a11 p.x.af
 it:p.x.it=[]
 el:p.x.el=[]
theorem stsEq {S S':Nat→Prop} {w w':World} (hS:∀ b,S b→S' b∧w'.heap[b]? = w.heap[b]?) {v:Value} {l:List ByteArray} (h:StS S w v l):StS S' w' v l :=
 h.kept (fun b q=>(hS b q).1) (fun b _ q _ hv=>(World.cell?_of_block (w:=w) (hS b q).2).trans hv)
theorem wtsEq {S S':Nat→Prop} {w w':World} (hS:∀ b,S b→S' b∧w'.heap[b]? = w.heap[b]?) {v:Value} {l:List Wt} (h:WtS S w v l):WtS S' w' v l :=
 h.kept (fun b q=>(hS b q).1) (fun b _ q _ hv=>(World.cell?_of_block (w:=w) (hS b q).2).trans hv)
theorem PcS.eq {S S':Nat→Prop} {w w':World} (hS:∀ b,S b→S' b∧w'.heap[b]? = w.heap[b]?) {p:Pc} (h:PcS S w p):PcS S' w' p :=
 ⟨h.nm,h.ix,exsEq hS h.ex,wtsEq hS h.wt,stsEq hS h.bf,stsEq hS h.af,h.it,h.el⟩
structure XL (xb fb n0:Nat) (W:World) (v:Value) (L:List Pc):Prop where
 bx:Blk W xb [.map (some fb),v]
 row:W.ownsRow n0 55 12 v L.length (L.flatMap pcC)
 ne:v.ownBlock≠some xb
 parts:∀ p∈L,PcS (Av xb W) W p
theorem XL.own {xb fb n0:Nat} {W:World} {v:Value} {L:List Pc} (h:XL xb fb n0 W v L):ownX xb W=v.ownBlock:=by
 unfold ownX;rw [h.bx.c 1 v rfl]
theorem XL.lt {xb fb n0:Nat} {W:World} {v:Value} {L:List Pc} (h:XL xb fb n0 W v L):∀ k,ownX xb W=some k→k<W.heap.size:=fun k hk=>by
 rw [h.own] at hk;exact (own_lt h.row k hk).2.1
theorem XL.below {xb fb n0:Nat} {W W':World} {v:Value} {L:List Pc} (h:XL xb fb n0 W v L) (hb:Below W.heap.size W W'):XL xb fb n0 W' v L :=
 ⟨h.bx.stay hb,own_later h.row hb,h.ne,fun p hp=>(h.parts p hp).eq ((KX.of_below h.bx.lt hb).keep)⟩
theorem Av.fresh {xb fb n0:Nat} {W W':World} {v:Value} {L:List Pc} {b:Nat} (h:XL xb fb n0 W v L) (hb:Below W.heap.size W W') (h0:W.heap.size≤b) (h1:b<W'.heap.size):Av xb W' b:=Av.new h.bx.lt h.lt hb h0 h1
theorem set12 {xs Z:List Value} {n:Nat} (hx:xs.length=n*12) (r:Nat) (x:Value):(xs++Z).set (n*12+r) x=xs++Z.set r x:=by
 rw [List.set_append_right _ _ (by omega),show n*12+r - xs.length=r by omega]
theorem own12 {w:World} {n0 g n cap:Nat} {xs:List Value} {z0 z1 z2 z3 z4 z5 z6 z7 z8 z9 z10 z11:Value} (h:w.ownsRow n0 55 12 (.slice (some ⟨g,0,none⟩) (n+1) cap) (n+1) (xs++[z0,z1,z2,z3,z4,z5,z6,z7,z8,z9,z10,z11])) (hx:xs.length=n*12) (x0 x1 x2 x3 x4 x5 x6 x7 x8 x9 x10 x11:Value) :
  ((((((((((((w.setCell ⟨g,n*12,none⟩ x0).setCell ⟨g,n*12+1,none⟩ x1).setCell ⟨g,n*12+2,none⟩ x2).setCell ⟨g,n*12+3,none⟩ x3).setCell ⟨g,n*12+4,none⟩ x4).setCell ⟨g,n*12+5,none⟩ x5).setCell ⟨g,n*12+6,none⟩ x6).setCell ⟨g,n*12+7,none⟩ x7).setCell ⟨g,n*12+8,none⟩ x8).setCell ⟨g,n*12+9,none⟩ x9).setCell ⟨g,n*12+10,none⟩ x10).setCell ⟨g,n*12+11,none⟩ x11).ownsRow n0 55 12 (.slice (some ⟨g,0,none⟩) (n+1) cap) (n+1) (xs++[x0,x1,x2,x3,x4,x5,x6,x7,x8,x9,x10,x11]):=by
 have h1:=(World.ownsRow.stored h (n*12) x0).1;rw [show n*12=n*12+0 by omega,set12 hx] at h1;rw [show n*12+0=n*12 by omega] at h1;simp only [List.set_cons_zero] at h1;have h2:=(World.ownsRow.stored h1 (n*12+1) x1).1;rw [set12 hx] at h2;simp only [List.set_cons_zero,List.set_cons_succ] at h2;have h3:=(World.ownsRow.stored h2 (n*12+2) x2).1;rw [set12 hx] at h3;simp only [List.set_cons_zero,List.set_cons_succ] at h3;have h4:=(World.ownsRow.stored h3 (n*12+3) x3).1;rw [set12 hx] at h4;simp only [List.set_cons_zero,List.set_cons_succ] at h4;have h5:=(World.ownsRow.stored h4 (n*12+4) x4).1;rw [set12 hx] at h5;simp only [List.set_cons_zero,List.set_cons_succ] at h5;have h6:=(World.ownsRow.stored h5 (n*12+5) x5).1;rw [set12 hx] at h6;simp only [List.set_cons_zero,List.set_cons_succ] at h6;have h7:=(World.ownsRow.stored h6 (n*12+6) x6).1;rw [set12 hx] at h7;simp only [List.set_cons_zero,List.set_cons_succ] at h7;have h8:=(World.ownsRow.stored h7 (n*12+7) x7).1;rw [set12 hx] at h8;simp only [List.set_cons_zero,List.set_cons_succ] at h8;have h9:=(World.ownsRow.stored h8 (n*12+8) x8).1;rw [set12 hx] at h9;simp only [List.set_cons_zero,List.set_cons_succ] at h9;have h10:=(World.ownsRow.stored h9 (n*12+9) x9).1;rw [set12 hx] at h10;simp only [List.set_cons_zero,List.set_cons_succ] at h10;have h11:=(World.ownsRow.stored h10 (n*12+10) x10).1;rw [set12 hx] at h11;simp only [List.set_cons_zero,List.set_cons_succ] at h11;have h12:=(World.ownsRow.stored h11 (n*12+11) x11).1;rw [set12 hx] at h12;simp only [List.set_cons_zero,List.set_cons_succ] at h12;exact h12
theorem heap12 {w:World} {g n b:Nat} (hb:b≠g) (x0 x1 x2 x3 x4 x5 x6 x7 x8 x9 x10 x11:Value):((((((((((((w.setCell ⟨g,n*12,none⟩ x0).setCell ⟨g,n*12+1,none⟩ x1).setCell ⟨g,n*12+2,none⟩ x2).setCell ⟨g,n*12+3,none⟩ x3).setCell ⟨g,n*12+4,none⟩ x4).setCell ⟨g,n*12+5,none⟩ x5).setCell ⟨g,n*12+6,none⟩ x6).setCell ⟨g,n*12+7,none⟩ x7).setCell ⟨g,n*12+8,none⟩ x8).setCell ⟨g,n*12+9,none⟩ x9).setCell ⟨g,n*12+10,none⟩ x10).setCell ⟨g,n*12+11,none⟩ x11).heap[b]? = w.heap[b]?:=by
 have h:∀ (V:World) (i:Nat) (x:Value),(V.setCell ⟨g,i,none⟩ x).heap[b]? = V.heap[b]?:=(fun V i x=>Below.heap_setCell _ _ _ _ hb);simp only [h]
theorem size12' {w:World} {g n:Nat} (x0 x1 x2 x3 x4 x5 x6 x7 x8 x9 x10 x11:Value):((((((((((((w.setCell ⟨g,n*12,none⟩ x0).setCell ⟨g,n*12+1,none⟩ x1).setCell ⟨g,n*12+2,none⟩ x2).setCell ⟨g,n*12+3,none⟩ x3).setCell ⟨g,n*12+4,none⟩ x4).setCell ⟨g,n*12+5,none⟩ x5).setCell ⟨g,n*12+6,none⟩ x6).setCell ⟨g,n*12+7,none⟩ x7).setCell ⟨g,n*12+8,none⟩ x8).setCell ⟨g,n*12+9,none⟩ x9).setCell ⟨g,n*12+10,none⟩ x10).setCell ⟨g,n*12+11,none⟩ x11).heap.size=w.heap.size:=by simp only [setCell_size]
theorem low12 {w0 w:World} {g n B:Nat} (h:Below B w0 w) (hg:B≤g) (x0 x1 x2 x3 x4 x5 x6 x7 x8 x9 x10 x11:Value):Below B w0 ((((((((((((w.setCell ⟨g,n*12,none⟩ x0).setCell ⟨g,n*12+1,none⟩ x1).setCell ⟨g,n*12+2,none⟩ x2).setCell ⟨g,n*12+3,none⟩ x3).setCell ⟨g,n*12+4,none⟩ x4).setCell ⟨g,n*12+5,none⟩ x5).setCell ⟨g,n*12+6,none⟩ x6).setCell ⟨g,n*12+7,none⟩ x7).setCell ⟨g,n*12+8,none⟩ x8).setCell ⟨g,n*12+9,none⟩ x9).setCell ⟨g,n*12+10,none⟩ x10).setCell ⟨g,n*12+11,none⟩ x11) :=
 ((((((((((((h.setCell hg _).setCell hg _).setCell hg _).setCell hg _).setCell hg _).setCell hg _).setCell hg _).setCell hg _).setCell hg _).setCell hg _).setCell hg _).setCell hg _)
theorem XL.push {xb fb n0:Nat} {W W1 w2 w3:World} {v:Value} {L:List Pc} {n g cap:Nat} {z0 z1 z2 z3 z4 z5 z6 z7 z8 z9 z10 z11:Value} {p:Pc} (h:XL xb fb n0 W v L) (hn:L.length=n) (hx0:n0≤xb) (hn0:n0≤W.heap.size) (hb1:Below W.heap.size W W1)
  (hown:w2.ownsRow n0 55 12 (.slice (some ⟨g,0,none⟩) (n+1) cap) (n+1) (L.flatMap pcC++[z0,z1,z2,z3,z4,z5,z6,z7,z8,z9,z10,z11])) (hg:W1.grownBy w2 v.ownBlock) (hat:v.ownBlock=some g∨g=W1.heap.size) (hb3:Below w2.heap.size w2 w3)
  (hp:PcS (fun b=>(Av xb W b∨(W.heap.size≤b∧b≠g))∧b<w3.heap.size) w3 p) {x0 x1 x2 x3 x4 x5 x6 x7 x8 x9 x10 x11:Value} (hpc:pcC p=[x0,x1,x2,x3,x4,x5,x6,x7,x8,x9,x10,x11]) :
  XL xb fb n0 (((((((((((((w3.setCell ⟨g,n*12,none⟩ x0).setCell ⟨g,n*12+1,none⟩ x1).setCell ⟨g,n*12+2,none⟩ x2).setCell ⟨g,n*12+3,none⟩ x3).setCell ⟨g,n*12+4,none⟩ x4).setCell ⟨g,n*12+5,none⟩ x5).setCell ⟨g,n*12+6,none⟩ x6).setCell ⟨g,n*12+7,none⟩ x7).setCell ⟨g,n*12+8,none⟩ x8).setCell ⟨g,n*12+9,none⟩ x9).setCell ⟨g,n*12+10,none⟩ x10).setCell ⟨g,n*12+11,none⟩ x11).setCell ⟨xb,1,none⟩ (.slice (some ⟨g,0,none⟩) (n+1) cap)) (.slice (some ⟨g,0,none⟩) (n+1) cap) (L++[p]) ∧
  KX xb W (((((((((((((w3.setCell ⟨g,n*12,none⟩ x0).setCell ⟨g,n*12+1,none⟩ x1).setCell ⟨g,n*12+2,none⟩ x2).setCell ⟨g,n*12+3,none⟩ x3).setCell ⟨g,n*12+4,none⟩ x4).setCell ⟨g,n*12+5,none⟩ x5).setCell ⟨g,n*12+6,none⟩ x6).setCell ⟨g,n*12+7,none⟩ x7).setCell ⟨g,n*12+8,none⟩ x8).setCell ⟨g,n*12+9,none⟩ x9).setCell ⟨g,n*12+10,none⟩ x10).setCell ⟨g,n*12+11,none⟩ x11).setCell ⟨xb,1,none⟩ (.slice (some ⟨g,0,none⟩) (n+1) cap))∧Below n0 W (((((((((((((w3.setCell ⟨g,n*12,none⟩ x0).setCell ⟨g,n*12+1,none⟩ x1).setCell ⟨g,n*12+2,none⟩ x2).setCell ⟨g,n*12+3,none⟩ x3).setCell ⟨g,n*12+4,none⟩ x4).setCell ⟨g,n*12+5,none⟩ x5).setCell ⟨g,n*12+6,none⟩ x6).setCell ⟨g,n*12+7,none⟩ x7).setCell ⟨g,n*12+8,none⟩ x8).setCell ⟨g,n*12+9,none⟩ x9).setCell ⟨g,n*12+10,none⟩ x10).setCell ⟨g,n*12+11,none⟩ x11).setCell ⟨xb,1,none⟩ (.slice (some ⟨g,0,none⟩) (n+1) cap)):=by
 have s1:=hb1.size;have s2:=hg.size;have s3:=hb3.size;have hxlt:=h.bx.lt;have hgo:∀ b,v.ownBlock=some b→n0≤b∧b<W.heap.size:=(fun b hb=>⟨(own_lt h.row b hb).1,(own_lt h.row b hb).2.1⟩);have hg0:n0≤g:=(by rcases hat with e | e;exact (hgo g e).1;omega);have hgx:g≠xb:=by
  rcases hat with e | e
  ·intro e2;subst e2;exact h.ne e
  ·omega
 have keep:∀ b,b<W.heap.size→v.ownBlock≠some b→w3.heap[b]? = W.heap[b]?:=fun b hb hne =>
  ((hb3.block b (by omega)).trans (hg.block b (by omega) (fun e=>hne e.symm))).trans (hb1.block b hb)
 obtain⟨W4,hW4⟩:∃ W4,((((((((((((w3.setCell ⟨g,n*12,none⟩ x0).setCell ⟨g,n*12+1,none⟩ x1).setCell ⟨g,n*12+2,none⟩ x2).setCell ⟨g,n*12+3,none⟩ x3).setCell ⟨g,n*12+4,none⟩ x4).setCell ⟨g,n*12+5,none⟩ x5).setCell ⟨g,n*12+6,none⟩ x6).setCell ⟨g,n*12+7,none⟩ x7).setCell ⟨g,n*12+8,none⟩ x8).setCell ⟨g,n*12+9,none⟩ x9).setCell ⟨g,n*12+10,none⟩ x10).setCell ⟨g,n*12+11,none⟩ x11)=W4:=⟨_,rfl⟩;have r4:=own12 (own_later hown hb3) (by rw [flat_len pcC_len,hn]) x0 x1 x2 x3 x4 x5 x6 x7 x8 x9 x10 x11;have k4:∀ b,b≠g→W4.heap[b]? = w3.heap[b]?:=(fun b hb=>by rw [←hW4];exact heap12 hb x0 x1 x2 x3 x4 x5 x6 x7 x8 x9 x10 x11);have z4:W4.heap.size=w3.heap.size:=(by rw [←hW4];exact size12' x0 x1 x2 x3 x4 x5 x6 x7 x8 x9 x10 x11);have l4:Below n0 W W4:=by
  rw [←hW4];exact low12 (((hb1.mono hn0).grown hg (by omega) (fun k e=>(hgo k e).1)).trans (hb3.mono (by omega))) hg0 x0 x1 x2 x3 x4 x5 x6 x7 x8 x9 x10 x11
 rw [hW4] at r4 ⊢;clear hW4;have hxo:v.ownBlock≠some xb:=h.ne;have hbx4:Blk W4 xb [.map (some fb),v]:=blk_eq h.bx ((k4 xb (fun e=>hgx e.symm)).trans (keep xb hxlt hxo));have hbx5:=hbx4.set 1 (.slice (some ⟨g,0,none⟩) (n+1) cap) (by simp);have k5:∀ b,b≠xb→(W4.setCell ⟨xb,1,none⟩ (.slice (some ⟨g,0,none⟩) (n+1) cap)).heap[b]? = W4.heap[b]?:=(fun b hb=>Below.heap_setCell _ _ _ _ hb);have z5:(W4.setCell ⟨xb,1,none⟩ (.slice (some ⟨g,0,none⟩) (n+1) cap)).heap.size=W4.heap.size:=setCell_size _ _ _;have r5:=World.ownsRow.kept r4 (grownBy_set W4 xb 1 (.slice (some ⟨g,0,none⟩) (n+1) cap)) (.inr (fun e=>hgx (by simpa [Value.ownBlock] using e)));have l5:=l4.setCell (p:=⟨xb,1,none⟩) hx0 (.slice (some ⟨g,0,none⟩) (n+1) cap);obtain⟨W5,hW5⟩:∃ W5,W4.setCell ⟨xb,1,none⟩ (.slice (some ⟨g,0,none⟩) (n+1) cap)=W5:=⟨_,rfl⟩;rw [hW5] at hbx5 k5 z5 r5 l5 ⊢;have hox:ownX xb W5=some g:=(by unfold ownX;rw [hbx5.c 1 _ rfl];rfl);have hav:∀ b,Av xb W b→Av xb W5 b∧W5.heap[b]? = W.heap[b]?:=fun b hb=>by
  have hbo:v.ownBlock≠some b:=(by have:=hb.2.2;rw [h.own] at this;exact this);have hbg:b≠g:=by
   rcases hat with e | e
   ·intro e2;subst e2;exact hbo e
   ·have:=hb.1;omega
  exact⟨⟨by have:=hb.1;omega,hb.2.1,by rw [hox];intro e;exact hbg (Option.some.inj e).symm⟩,((k5 b hb.2.1).trans (k4 b hbg)).trans (keep b hb.1 hbo)⟩
 have hav3:∀ b,((Av xb W b∨(W.heap.size≤b∧b≠g))∧b<w3.heap.size)→Av xb W5 b∧W5.heap[b]? = w3.heap[b]?:=fun b hb=>by
  rcases hb.1 with q | q
  ·have hbo:v.ownBlock≠some b:=(by have:=q.2.2;rw [h.own] at this;exact this);exact⟨(hav b q).1,(hav b q).2.trans (keep b q.1 hbo).symm⟩
  ·exact⟨⟨by omega,by omega,by rw [hox];intro e;exact q.2 (Option.some.inj e).symm⟩,(k5 b (by omega)).trans (k4 b q.2)⟩
 refine⟨⟨hbx5,?_,fun e=>hgx (by simpa [Value.ownBlock] using e),fun p' hp'=>?_⟩,⟨by omega,hav⟩,l5⟩
 ·rw [List.length_append,List.flatMap_append,hn];simp only [List.length_cons,List.length_nil,List.flatMap_cons,List.flatMap_nil,List.append_nil,Nat.zero_add];rw [hpc];exact r5
 ·rcases List.mem_append.1 hp' with q | q
  ·exact (h.parts p' q).eq hav
  ·obtain rfl:p'=p:=(by simpa using q);exact hp.eq hav3
end ItW
end Go.Proofs.YtpejflgdehioaaaGreatDoor
