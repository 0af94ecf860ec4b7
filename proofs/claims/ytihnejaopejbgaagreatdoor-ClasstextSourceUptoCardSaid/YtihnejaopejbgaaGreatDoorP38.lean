/-
  Laws that the card uses; no conditions beside those that each states (ExOver CtItM ClLaid CtOpen).
-/
import Derived.Test.YtihnejaopejbgaaGreatDoorP36
set_option maxRecDepth 100000
set_option maxHeartbeats 16000000
namespace Go.Proofs.YtihnejaopejbgaaGreatDoor
namespace ExW
open Go Go.RowKit NumM LexW LexM ExM
theorem grownBy_set (W:World) (b o:Nat) (v:Value):W.grownBy (W.setCell ⟨b,o,none⟩ v) (some b) :=
 ⟨rfl,rfl,rfl,by rw [setCell_size];exact Nat.le_refl _,fun k _ hb=>heap_setCell_other _ _ _ _ (fun e=>hb (by rw [e]))⟩
theorem Box4.set {W:World} {b g i:Nat} {o n:Int} {s:ByteArray} {x:Value} (h:Box4 W b o n s x) (hn:b≠g) (u:Value):Box4 (W.setCell ⟨g,i,none⟩ u) b o n s x:=(heap_setCell_other W ⟨g,i,none⟩ b u hn).trans h
theorem Turn.set {g i:Nat} {A B:World} (h:Turn g A B) (u:Value):Turn g A (B.setCell ⟨g,i,none⟩ u) :=
 ⟨h.low.setCell (p:=⟨g,i,none⟩) (Nat.le_refl _) _,h.keep.trans (Keep.grown (grownBy_set _ _ _ _) fun b e _ _ _ _=>by cases e;exact⟨Nat.le_refl _,.inl (by omega)⟩)⟩
end ExW
namespace CtM
open Go NumM LexM ExM EtM ItM
theorem bzL_sum:∀ l:List It,bzL l=(l.map bzI).sum
 | []=>by rw [bzL_nil];rfl
 | a::r=>by rw [bzL_cons,bzL_sum r,List.map_cons,List.sum_cons]
end CtM
namespace ClW
open Go Go.RowKit Go.ChangeShapes Go.WideShapes Go.ChangeAt LexM LexW ClM
theorem cells_string:Tryz.prog.cellsOf 9=1:=by kernel_rfl
theorem cells_Expr:Tryz.prog.cellsOf 51=4:=by kernel_rfl
theorem cells_Item:Tryz.prog.cellsOf 53=12:=by kernel_rfl
theorem cells_SExpr:Tryz.prog.cellsOf 49=1:=by kernel_rfl
theorem cells_SItem:Tryz.prog.cellsOf 26=1:=by kernel_rfl
theorem cells_SWeight:Tryz.prog.cellsOf 22=1:=by kernel_rfl
theorem cells_Sstring:Tryz.prog.cellsOf 43=1:=by kernel_rfl
theorem bytes_Expr:Tryz.prog.bytesOf 51=56:=by kernel_rfl
theorem bytes_Item:Tryz.prog.bytesOf 53=216:=by kernel_rfl
theorem bytes_string:Tryz.prog.bytesOf 9=16:=by kernel_rfl
end ClW
namespace CtO
open Go Go.RowKit Go.ChangeShapes Go.WideShapes Go.ChangeAt NumM LexM LexW ExM ExW ItM ItW CtM CtW
open ClW (add_at pick_list weights_in)
open ClM (Fld)
open ClW (At RowA Lo CV)
theorem bulk_all {H:Type} {l:List (DataW H)} (h:Rows.uptoSmall H l=true):Rows.uptoBulkAll l≤1048576:=of_decide_eq_true h
theorem szs_sum:∀ l:List Ex,szs l=(l.map sz).sum
 | []=>by rw [szs_nil];rfl
 | a::r=>by rw [szs_cons,szs_sum r,List.map_cons,List.sum_cons]
def slP:Value→Option Addr
 | .slice p _ _=>p
 | _=>none
def slC:Value→Nat
 | .slice _ _ c=>c
 | _=>0
section
variable {H:Type} {enc:TypeId × Value→H} {W:World}
theorem open_strs (fuel:Nat) (v:Value) (x:DataW H × List MemPlace) (h:DataW.trod enc Tryz.prog W 0 (fun _=>true) true fuel 43 [v]=some x) (hlt:∀ y∈x.2,y.block<W.heap.size) (hw:∀ n∈x.1.weights Tryz.prog 43,n≤140737488351232):∃ l,StA W.heap.size W v l∧l.length≤Rows.uptoBulk x.1:=by
 obtain⟨p,cap,l,C,rfl,h1,h2,h3,h4,h5⟩:=open_row (W:=W) (enc:=enc) 43 9 1 16 Tryz.underlying43 ClW.cells_string ClW.bytes_string (by decide) (fun cs _ (s:ByteArray)=>cs=[.string s]∧s.size≤140737488351232) fuel (fun m cs x _ _ h _ hw=>by
  obtain⟨s,e,g,_⟩:=DataW.trod_string Tryz.underlying9 h;refine⟨s,e,?_⟩;rw [g] at hw;have:=hw s.data.toList.length (by simp [DataW.weights]);rw [len_data] at this;exact this) v x h hlt hw
 refine⟨l,⟨p,cap,rfl,h1,h2,fun s hs=>?_,fun h0=>?_⟩,by have:=h5 (fun _=>1) (fun _ d _ _=>bulk_pos d);rw [ones] at this;exact this⟩
 ·obtain⟨i,hi⟩:=List.getElem?_of_mem hs;obtain⟨_,_,hz⟩:=h4 i s hi;exact hz
 ·obtain⟨b,off,e,hb,hcell⟩:=h3 h0;refine⟨b,off,e,hb,fun i s hi=>?_⟩;obtain⟨_,hc,_⟩:=h4 i s hi;have:=hcell i s hi 0 (by decide);rw [hc,Nat.mul_one] at this;exact this
def ExP (W:World) (cs:List Value) (d:DataW H) (e:Ex):Prop :=
 (∃ p cap,cs=[.int .i64 e.op,.int .i64 e.n,.string e.nm,.slice p e.args.length cap]∧ExAt W.heap.size W (xv e.op e.n e.nm (.slice p e.args.length cap)) e)∧sz e≤Rows.uptoBulk d
theorem open_ex:∀ (fuel:Nat) (cs:List Value) (x:DataW H × List MemPlace),cs.length=4→DataW.trod enc Tryz.prog W 0 (fun _=>true) true fuel 51 cs=some x→(∀ y∈x.2,y.block<W.heap.size)→(∀ n∈x.1.weights Tryz.prog 51,n≤140737488351232)→∃ e,ExP W cs x.1 e:=by
 intro fuel;induction fuel using Nat.strongRecOn with
 | _ fuel ih =>
 intro cs x hl h hlt hw;obtain⟨xs,n,rfl,rfl,_,hlen,hfd⟩:=DataW.trod_struct Tryz.underlying51 h;match cs,hl with
 | [c0,c1,c2,c3],_ =>
  match xs,hlen with
  | [y0,y1,y2,y3],_ =>
   have h0:DataW.trod enc Tryz.prog W 0 (fun _=>true) true n 3 ([c0,c1,c2,c3].take (Tryz.prog.cellsOf 3))=some y0:=hfd 0 _ rfl;rw [ClW.cells_int,show [c0,c1,c2,c3].take 1=[c0] from rfl] at h0;have h1:DataW.trod enc Tryz.prog W 0 (fun _=>true) true n 3 ([c1,c2,c3].take (Tryz.prog.cellsOf 3))=some y1:=hfd 1 _ rfl;rw [ClW.cells_int,show [c1,c2,c3].take 1=[c1] from rfl] at h1;have h2:DataW.trod enc Tryz.prog W 0 (fun _=>true) true n 9 ([c2,c3].take (Tryz.prog.cellsOf 9))=some y2:=hfd 2 _ rfl;rw [ClW.cells_string,show [c2,c3].take 1=[c2] from rfl] at h2;have h3:DataW.trod enc Tryz.prog W 0 (fun _=>true) true n 49 ([c3].take (Tryz.prog.cellsOf 49))=some y3:=hfd 3 _ rfl;rw [ClW.cells_SExpr,show [c3].take 1=[c3] from rfl] at h3;obtain⟨m0,e0,_,_⟩:=DataW.trod_int Tryz.underlying3 h0;obtain⟨m1,e1,_,_⟩:=DataW.trod_int Tryz.underlying3 h1;obtain⟨s2,e2,g2,_⟩:=DataW.trod_string Tryz.underlying9 h2;obtain rfl:c0=.int .i64 m0:=(by simpa using e0);obtain rfl:c1=.int .i64 m1:=(by simpa using e1);obtain rfl:c2=.string s2:=(by simpa using e2);have w2:∀ q∈y2.1.weights Tryz.prog 9,q≤140737488351232:=fun q hq=>hw q (by
    simp only [DataW.weights,Tryz.underlying51];exact DataW.weights_mem_each (j:=2) rfl rfl q hq)
   have z2:s2.size≤140737488351232:=by
    rw [g2] at w2;have:=w2 s2.data.toList.length (by simp [DataW.weights]);rw [len_data] at this;exact this
   have p3:∀ z∈y3.2,z.block<W.heap.size:=(fun z hz=>hlt z (List.mem_flatMap.2 ⟨y3,by simp,hz⟩));have w3:∀ q∈y3.1.weights Tryz.prog 49,q≤140737488351232:=fun q hq=>hw q (by
    simp only [DataW.weights,Tryz.underlying51];exact DataW.weights_mem_each (j:=3) rfl rfl q hq)
   obtain⟨p,cap,l,C,rfl,k1,k2,k3,k4,k5⟩:=open_row (W:=W) (enc:=enc) 49 51 4 56 Tryz.underlying49 ClW.cells_Expr ClW.bytes_Expr (by decide) (ExP W) n (fun m cs y hm hl h hlt hw=>ih m (by omega) cs y hl h hlt hw) c3 y3 h3 p3 w3;refine⟨.mk m0 m1 s2 l,⟨p,cap,rfl,?_⟩,?_⟩
   ·refine ExAt.mk (fun i=>slP ((C i).getD 3 (.bool false))) (fun i=>slC ((C i).getD 3 (.bool false))) z2 k1 k2 (fun q0=>?_) (fun i a ha=>?_)
    ·obtain⟨b,off,e,hb,hcell⟩:=k3 q0;refine⟨b,off,e,hb,fun i a ha=>?_⟩;obtain⟨d,⟨p',c',e',_⟩,_⟩:=k4 i a ha;have c:=(fun j hj=>hcell i a ha j hj);rw [e'] at c ⊢;exact⟨c 0 (by decide),c 1 (by decide),c 2 (by decide),c 3 (by decide)⟩
    ·obtain⟨d,⟨p',c',e',hx⟩,_⟩:=k4 i a ha;rw [e'];exact hx
   ·have q:=(k5 sz fun _ _ _ h=>h.2);have e1:∀ (A B C D:DataW H),Rows.uptoBulk (.agg [A,B,C,D])=Rows.uptoBulk A+(Rows.uptoBulk B+(Rows.uptoBulk C+(Rows.uptoBulk D+0)))+1:=(fun _ _ _ _=>by simp only [Rows.uptoBulk,Rows.uptoBulkAll]);rw [sz_mk,szs_sum];simp only [List.map_cons,List.map_nil];rw [e1];omega
theorem open_item (fuel:Nat) (ih:∀ m,m<fuel→∀ (v:Value) (x:DataW H × List MemPlace),DataW.trod enc Tryz.prog W 0 (fun _=>true) true m 26 [v]=some x→(∀ y∈x.2,y.block<W.heap.size)→(∀ n∈x.1.weights Tryz.prog 26,n≤140737488351232)→∃ l,ItsA W.heap.size W v l∧bzL l≤Rows.uptoBulk x.1)
  (cs:List Value) (x:DataW H × List MemPlace) (hl:cs.length=12) (h:DataW.trod enc Tryz.prog W 0 (fun _=>true) true fuel 53 cs=some x) (hlt:∀ y∈x.2,y.block<W.heap.size) (hw:∀ n∈x.1.weights Tryz.prog 53,n≤140737488351232):∃ t,ItP W cs x.1 t:=by
 obtain⟨xs,n,rfl,rfl,_,hlen,hfd⟩:=DataW.trod_struct Tryz.underlying53 h;match cs,hl with
 | [c0,c1,c2,c3,c4,c5,c6,c7,c8,c9,c10,c11],_ =>
  match xs,hlen with
  | [y0,y1,y2,y3,y4,y5,y6,y7,y8],_ =>
   have h0:DataW.trod enc Tryz.prog W 0 (fun _=>true) true n 3 ([c0,c1,c2,c3,c4,c5,c6,c7,c8,c9,c10,c11].take (Tryz.prog.cellsOf 3))=some y0:=hfd 0 _ rfl;rw [ClW.cells_int,show [c0,c1,c2,c3,c4,c5,c6,c7,c8,c9,c10,c11].take 1=[c0] from rfl] at h0;obtain⟨m0,e0,_,_⟩:=DataW.trod_int Tryz.underlying3 h0;obtain rfl:c0=.int .i64 m0:=(by simpa using e0);have h1:DataW.trod enc Tryz.prog W 0 (fun _=>true) true n 51 ([c1,c2,c3,c4,c5,c6,c7,c8,c9,c10,c11].take (Tryz.prog.cellsOf 51))=some y1:=hfd 1 _ rfl;rw [ClW.cells_Expr,show [c1,c2,c3,c4,c5,c6,c7,c8,c9,c10,c11].take 4=[c1,c2,c3,c4] from rfl] at h1;have p1:∀ z∈y1.2,z.block<W.heap.size:=(fun z hz=>hlt z (List.mem_flatMap.2 ⟨y1,by simp,hz⟩));have w1:∀ q∈y1.1.weights Tryz.prog 51,q≤140737488351232:=fun q hq=>hw q (by
    simp only [DataW.weights,Tryz.underlying53];exact DataW.weights_mem_each (j:=1) rfl rfl q hq)
   obtain⟨e1,⟨q1,k1,hc1,a1⟩,bx1⟩:=open_ex n [c1,c2,c3,c4] y1 rfl h1 p1 w1;obtain⟨rfl,rfl,rfl,rfl⟩:c1=.int .i64 e1.op∧c2=.int .i64 e1.n∧c3=.string e1.nm∧c4=.slice q1 e1.args.length k1:=(by simpa using hc1);have h2:DataW.trod enc Tryz.prog W 0 (fun _=>true) true n 9 ([c5,c6,c7,c8,c9,c10,c11].take (Tryz.prog.cellsOf 9))=some y2:=hfd 2 _ rfl;rw [ClW.cells_string,show [c5,c6,c7,c8,c9,c10,c11].take 1=[c5] from rfl] at h2;have p2:∀ z∈y2.2,z.block<W.heap.size:=(fun z hz=>hlt z (List.mem_flatMap.2 ⟨y2,by simp,hz⟩));have w2:∀ q∈y2.1.weights Tryz.prog 9,q≤140737488351232:=fun q hq=>hw q (by
    simp only [DataW.weights,Tryz.underlying53];exact DataW.weights_mem_each (j:=2) rfl rfl q hq)
   obtain⟨s2,e2,g2,_⟩:=DataW.trod_string Tryz.underlying9 h2;obtain rfl:c5=.string s2:=(by simpa using e2);have z2:s2.size≤140737488351232:=by
    rw [g2] at w2;have:=w2 s2.data.toList.length (by simp [DataW.weights]);rw [len_data] at this;exact this
   have h3:DataW.trod enc Tryz.prog W 0 (fun _=>true) true n 9 ([c6,c7,c8,c9,c10,c11].take (Tryz.prog.cellsOf 9))=some y3:=hfd 3 _ rfl;rw [ClW.cells_string,show [c6,c7,c8,c9,c10,c11].take 1=[c6] from rfl] at h3;have p3:∀ z∈y3.2,z.block<W.heap.size:=(fun z hz=>hlt z (List.mem_flatMap.2 ⟨y3,by simp,hz⟩));have w3:∀ q∈y3.1.weights Tryz.prog 9,q≤140737488351232:=fun q hq=>hw q (by
    simp only [DataW.weights,Tryz.underlying53];exact DataW.weights_mem_each (j:=3) rfl rfl q hq)
   obtain⟨s3,e3,g3,_⟩:=DataW.trod_string Tryz.underlying9 h3;obtain rfl:c6=.string s3:=(by simpa using e3);have z3:s3.size≤140737488351232:=by
    rw [g3] at w3;have:=w3 s3.data.toList.length (by simp [DataW.weights]);rw [len_data] at this;exact this
   have h4:DataW.trod enc Tryz.prog W 0 (fun _=>true) true n 22 ([c7,c8,c9,c10,c11].take (Tryz.prog.cellsOf 22))=some y4:=hfd 4 _ rfl;rw [ClW.cells_SWeight,show [c7,c8,c9,c10,c11].take 1=[c7] from rfl] at h4;have p4:∀ z∈y4.2,z.block<W.heap.size:=(fun z hz=>hlt z (List.mem_flatMap.2 ⟨y4,by simp,hz⟩));have w4:∀ q∈y4.1.weights Tryz.prog 22,q≤140737488351232:=fun q hq=>hw q (by
    simp only [DataW.weights,Tryz.underlying53];exact DataW.weights_mem_each (j:=4) rfl rfl q hq)
   obtain⟨l4,a4,_,bx4⟩:=open_wts n c7 y4 h4 p4 w4;have h5:DataW.trod enc Tryz.prog W 0 (fun _=>true) true n 26 ([c8,c9,c10,c11].take (Tryz.prog.cellsOf 26))=some y5:=hfd 5 _ rfl;rw [ClW.cells_SItem,show [c8,c9,c10,c11].take 1=[c8] from rfl] at h5;have p5:∀ z∈y5.2,z.block<W.heap.size:=(fun z hz=>hlt z (List.mem_flatMap.2 ⟨y5,by simp,hz⟩));have w5:∀ q∈y5.1.weights Tryz.prog 26,q≤140737488351232:=fun q hq=>hw q (by
    simp only [DataW.weights,Tryz.underlying53];exact DataW.weights_mem_each (j:=5) rfl rfl q hq)
   obtain⟨l5,a5,b5⟩:=ih n (by omega) c8 y5 h5 p5 w5;have h6:DataW.trod enc Tryz.prog W 0 (fun _=>true) true n 26 ([c9,c10,c11].take (Tryz.prog.cellsOf 26))=some y6:=hfd 6 _ rfl;rw [ClW.cells_SItem,show [c9,c10,c11].take 1=[c9] from rfl] at h6;have p6:∀ z∈y6.2,z.block<W.heap.size:=(fun z hz=>hlt z (List.mem_flatMap.2 ⟨y6,by simp,hz⟩));have w6:∀ q∈y6.1.weights Tryz.prog 26,q≤140737488351232:=fun q hq=>hw q (by
    simp only [DataW.weights,Tryz.underlying53];exact DataW.weights_mem_each (j:=6) rfl rfl q hq)
   obtain⟨l6,a6,b6⟩:=ih n (by omega) c9 y6 h6 p6 w6;have h7:DataW.trod enc Tryz.prog W 0 (fun _=>true) true n 43 ([c10,c11].take (Tryz.prog.cellsOf 43))=some y7:=hfd 7 _ rfl;rw [ClW.cells_Sstring,show [c10,c11].take 1=[c10] from rfl] at h7;have p7:∀ z∈y7.2,z.block<W.heap.size:=(fun z hz=>hlt z (List.mem_flatMap.2 ⟨y7,by simp,hz⟩));have w7:∀ q∈y7.1.weights Tryz.prog 43,q≤140737488351232:=fun q hq=>hw q (by
    simp only [DataW.weights,Tryz.underlying53];exact DataW.weights_mem_each (j:=7) rfl rfl q hq)
   obtain⟨l7,a7,bx7⟩:=open_strs n c10 y7 h7 p7 w7;have h8:DataW.trod enc Tryz.prog W 0 (fun _=>true) true n 43 ([c11].take (Tryz.prog.cellsOf 43))=some y8:=hfd 8 _ rfl;rw [ClW.cells_Sstring,show [c11].take 1=[c11] from rfl] at h8;have p8:∀ z∈y8.2,z.block<W.heap.size:=(fun z hz=>hlt z (List.mem_flatMap.2 ⟨y8,by simp,hz⟩));have w8:∀ q∈y8.1.weights Tryz.prog 43,q≤140737488351232:=fun q hq=>hw q (by
    simp only [DataW.weights,Tryz.underlying53];exact DataW.weights_mem_each (j:=8) rfl rfl q hq)
   obtain⟨l8,a8,bx8⟩:=open_strs n c11 y8 h8 p8 w8;refine⟨.mk m0 e1 s2 s3 l4 l5 l6 l7 l8,⟨_,_,_,_,_,_,rfl,⟨z2,z3,a1,a4,a5,a6,a7,a8⟩⟩,?_⟩;have e9:∀ (A B C D E F G I J:DataW H),Rows.uptoBulk (.agg [A,B,C,D,E,F,G,I,J])=Rows.uptoBulk A+(Rows.uptoBulk B+(Rows.uptoBulk C+(Rows.uptoBulk D+(Rows.uptoBulk E+(Rows.uptoBulk F+(Rows.uptoBulk G+(Rows.uptoBulk I+(Rows.uptoBulk J+0))))))))+1:=(fun _ _ _ _ _ _ _ _ _=>by simp only [Rows.uptoBulk,Rows.uptoBulkAll]);rw [bzI_eq];simp only [It.e,It.ws,It.bf,It.af,It.it,It.el,List.map_cons,List.map_nil];rw [e9];omega
theorem open_itemsF:∀ (fuel:Nat) (v:Value) (x:DataW H × List MemPlace),DataW.trod enc Tryz.prog W 0 (fun _=>true) true fuel 26 [v]=some x→(∀ y∈x.2,y.block<W.heap.size)→(∀ n∈x.1.weights Tryz.prog 26,n≤140737488351232)→∃ l,ItsA W.heap.size W v l∧bzL l≤Rows.uptoBulk x.1:=by
 intro fuel;induction fuel using Nat.strongRecOn with
 | _ fuel ih =>
 intro v x h hlt hw;obtain⟨p,cap,l,C,rfl,h1,h2,h3,h4,h5⟩:=open_row (W:=W) (enc:=enc) 26 53 12 216 Tryz.underlying26 ClW.cells_Item ClW.bytes_Item (by decide) (ItP W) fuel (fun m cs y hm hl h hlt hw=>open_item m (fun m' hm'=>ih m' (by omega)) cs y hl h hlt hw) v x h hlt hw;refine⟨l,?_,?_⟩
 ·have hv:∀ (i:Nat) (t:It),l[i]? = some t→C i=[.int .i64 t.kd,.int .i64 t.e.op,.int .i64 t.e.n,.string t.e.nm,(C i).getD 4 (.bool false),.string t.nm,.string t.ix,(C i).getD 7 (.bool false),(C i).getD 8 (.bool false),(C i).getD 9 (.bool false),(C i).getD 10 (.bool false),(C i).getD 11 (.bool false)] ∧
    IV W.heap.size W ((C i).getD 4 (.bool false)) ((C i).getD 7 (.bool false)) ((C i).getD 8 (.bool false)) ((C i).getD 9 (.bool false)) ((C i).getD 10 (.bool false)) ((C i).getD 11 (.bool false)) t:=fun i t hi=>by
   obtain⟨d,⟨a4,a7,a8,a9,a10,a11,e,hI⟩,_⟩:=h4 i t hi;rw [e];exact⟨rfl,hI⟩
  have r:RowI W.heap.size W p cap (fun i j=>(C i).getD j (.bool false)) l:=⟨h1,h2,fun h0=>by
   obtain⟨b,off,e,hb,hcell⟩:=h3 h0;refine⟨b,off,e,hb,fun i t hi=>?_⟩;have c:=(fun j hj=>hcell i t hi j hj);rw [(hv i t hi).1] at c;exact⟨c 0 (by decide),c 1 (by decide),c 2 (by decide),c 3 (by decide),c 4 (by decide),c 5 (by decide),c 6 (by decide),c 7 (by decide),c 8 (by decide),c 9 (by decide),c 10 (by decide),c 11 (by decide)⟩,fun i t hi=>(hv i t hi).2⟩
  exact r.its
 ·rw [bzL_sum];exact h5 bzI fun cs d t h=>h.2
end
end CtO
end Go.Proofs.YtihnejaopejbgaaGreatDoor
