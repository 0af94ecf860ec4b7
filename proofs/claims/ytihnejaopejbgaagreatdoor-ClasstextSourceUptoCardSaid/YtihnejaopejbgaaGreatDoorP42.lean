/-
  Laws that the card uses; no conditions beside those that each states (ClLaid CtOpen).
-/
import Derived.Test.YtihnejaopejbgaaGreatDoorP38
set_option maxRecDepth 100000
set_option maxHeartbeats 16000000
namespace Go.Proofs.YtihnejaopejbgaaGreatDoor
namespace ClW
open Go Go.RowKit Go.ChangeShapes Go.WideShapes Go.ChangeAt LexM LexW ClM
theorem cells_Block:Tryz.prog.cellsOf 57=2:=by kernel_rfl
theorem cells_Class:Tryz.prog.cellsOf 32=4:=by kernel_rfl
theorem cells_Field:Tryz.prog.cellsOf 55=5:=by kernel_rfl
theorem cells_SBlock:Tryz.prog.cellsOf 30=1:=by kernel_rfl
theorem cells_SField:Tryz.prog.cellsOf 29=1:=by kernel_rfl
theorem bytes_Field:Tryz.prog.bytesOf 55=48:=by kernel_rfl
theorem bytes_Block:Tryz.prog.bytesOf 57=40:=by kernel_rfl
theorem bytes_Class:Tryz.prog.bytesOf 32=80:=by kernel_rfl
inductive Fz (S:Nat→Prop) (W:World):List Sh→List Value→List Lf→Prop
 | nil:Fz S W [] [] []
 | cons {sh:Sh} {v:Value} {y:Lf} {shs:List Sh} {vs:List Value} {ys:List Lf} (h:At S W sh v y) (hr:Fz S W shs vs ys):Fz S W (sh::shs) (v::vs) (y::ys)
theorem Fz.len {S:Nat→Prop} {W:World} {shs:List Sh} {vs:List Value} {ys:List Lf} (h:Fz S W shs vs ys):vs.length=shs.length∧ys.length=shs.length:=by
 induction h with
 | nil=>exact⟨rfl,rfl⟩
 | cons _ _ ih=>simp [ih.1,ih.2]
theorem Fz.at_ {S:Nat→Prop} {W:World} {shs:List Sh} {vs:List Value} {ys:List Lf} (h:Fz S W shs vs ys):∀ (j:Nat) (v:Value) (y:Lf) (sh:Sh),vs[j]? = some v→ys[j]? = some y→shs[j]? = some sh→At S W sh v y:=by
 induction h with
 | nil=>intro j v y sh h;simp at h
 | cons h _ ih =>
  intro j v y sh h1 h2 h3;cases j with
  | zero=>simp at h1 h2 h3;subst h1 h2 h3;exact h
  | succ j=>exact ih j v y sh (by simpa using h1) (by simpa using h2) (by simpa using h3)
section
variable {H:Type} {enc:TypeId × Value→H} {W:World}
theorem row_of (kd:Kd) (T E:TypeId) (hT:Tryz.prog.underlying T=some (.slice E)) (hc:Tryz.prog.cellsOf E=(shp kd).length) (hb:Tryz.prog.bytesOf E=byt kd) (h0:0<(shp kd).length) (fuel:Nat)
  (hel:∀ m (cs:List Value) (x:DataW H × List MemPlace),m<fuel→cs.length=(shp kd).length→DataW.trod enc Tryz.prog W 0 (fun _=>true) true m E cs=some x→(∀ y∈x.2,y.block<W.heap.size)→(∀ n∈x.1.weights Tryz.prog E,n≤140737488351232)→∃ ls,Fz (Lo W.heap.size) W (shp kd) cs ls)
  (v:Value) (x:DataW H × List MemPlace) (h:DataW.trod enc Tryz.prog W 0 (fun _=>true) true fuel T [v]=some x) (hlt:∀ y∈x.2,y.block<W.heap.size) (hw:∀ n∈x.1.weights Tryz.prog T,n≤140737488351232):∃ l,At (Lo W.heap.size) W (.r kd) v (.row kd l):=by
 rcases DataW.trod_slice hT h with ⟨hcs,_⟩ | ⟨a,len,cap,elems,rest,m,rfl,hcs,rfl,_,hlc,_,hl,hE,_,_⟩
 ·obtain rfl:v=.slice none 0 0:=(by simpa using hcs);exact⟨[],.nilRow _ _ _⟩
 ·obtain rfl:v=.slice (some a) len cap:=(by simpa using hcs);rw [hc] at hE hlt;have hbytes:len*byt kd≤140737488351232:=by
   have:=hw ((elems.length+rest.length)*byt kd) (by simp only [DataW.weights,hT,hb,List.length_map];simp);have h2:len*byt kd≤(elems.length+rest.length)*byt kd:=Nat.mul_le_mul_right _ (by omega);omega
  have each:∀ i,i<len→∃ t:List Value × List Lf,(∀ j,j<(shp kd).length→W.cell? ((a.add (i*(shp kd).length)).add j)=t.1[j]?)∧Fz (Lo W.heap.size) W (shp kd) t.1 t.2:=fun i hi=>by
   have hi2:i<elems.length:=(by omega);have hbb:=hE i hi;rw [List.getElem?_eq_getElem hi2,Option.bind_eq_some_iff] at hbb;obtain⟨cs',hc',ht'⟩:=hbb;obtain⟨_,hcl,hat⟩:=World.cells?_some hc';have hmem:elems[i]∈elems:=List.getElem_mem hi2
   obtain⟨ls,hf⟩:=hel m cs' elems[i] (by omega) hcl ht'
    (fun y hy=>hlt y (List.mem_append.2 (.inr (List.mem_flatMap.2 ⟨_,List.mem_append.2 (.inl hmem),hy⟩))))
    (fun q hq=>hw q (by
     simp only [DataW.weights,hT,List.mem_cons,List.mem_append];exact .inr (.inl (weights_in (List.mem_map.2 ⟨_,hmem,rfl⟩) q hq))))
   exact⟨(cs',ls),hat,hf⟩
  obtain⟨l,hll,hq⟩:=pick_list len each;have get:∀ (i:Nat) (y:List Lf),(l.map (·.2))[i]? = some y→∃ t:List Value × List Lf,l[i]? = some t∧t.2=y:=fun i y he=>by
   rw [List.getElem?_map] at he;obtain⟨t,ht,rfl⟩:=Option.map_eq_some_iff.1 he;exact⟨t,ht,rfl⟩
  have hkl:(l.map (·.2)).length=len:=(by rw [List.length_map,hll]);refine⟨l.map (·.2),?_⟩;have r:RowA (Lo W.heap.size) W kd (some a) cap (fun i j=>(((l[i]?).map (·.1)).getD []).getD j undef) (l.map (·.2)):=by
   refine⟨by rw [hkl];exact hbytes,by rw [hkl];exact hlc,fun hpos=>?_,fun i y he=>?_,fun i y j z sh he hz hsh=>?_⟩
   ·rw [hkl] at hpos;obtain⟨b,off,spot⟩:=a;have hspot:spot=none:=by
     obtain⟨t0,ht0⟩:∃ t,l[0]? = some t:=⟨_,List.getElem?_eq_getElem (by omega)⟩;obtain⟨g1,g2⟩:=hq 0 t0 ht0;have:=g1 0 h0;rw [List.getElem?_eq_getElem (by rw [g2.len.1];exact h0)] at this
     simpa [Addr.add] using World.cell?_spot this
    subst hspot;refine⟨b,off,rfl,hlt (.cell b off) (List.mem_append.2 (.inl (MemPlace.mem_row.2 ⟨0,Nat.mul_pos (by omega) h0,by simp⟩))),fun i j hi hj=>?_⟩;rw [hkl] at hi;obtain⟨t,ht⟩:∃ t,l[i]? = some t:=⟨_,List.getElem?_eq_getElem (by omega)⟩;obtain⟨g1,g2⟩:=hq i t ht;have:=g1 j hj;rw [add_at,add_at] at this;rw [this,ht];simp only [Option.map_some,Option.getD_some];rw [List.getElem?_eq_getElem (by rw [g2.len.1];exact hj),List.getD_eq_getElem?_getD,List.getElem?_eq_getElem (by rw [g2.len.1];exact hj)];rfl
   ·obtain⟨t,ht,rfl⟩:=get i y he;exact (hq i t ht).2.len.2
   ·obtain⟨t,ht,rfl⟩:=get i y he;have hf:=(hq i t ht).2;have hj:j<t.1.length:=(by rw [hf.len.1];exact (List.getElem?_eq_some_iff.1 hsh).1);simp only [ht,Option.map_some,Option.getD_some];rw [List.getD_eq_getElem?_getD,List.getElem?_eq_getElem hj];exact hf.at_ j _ z sh (List.getElem?_eq_getElem hj) hz hsh
  have:=r.at_;rw [hkl] at this;exact this
def slT:Kd→TypeId
 | .exprs=>49
 | .weights=>22
 | .items=>26
 | .strs=>43
 | .fields=>29
 | .blocks=>30
 | .classes=>35
def RowsTo (enc:TypeId × Value→H) (W:World) (fuel:Nat):Prop:=∀ m,m<fuel→∀ (kd:Kd) (v:Value) (x:DataW H × List MemPlace),DataW.trod enc Tryz.prog W 0 (fun _=>true) true m (slT kd) [v]=some x→(∀ y∈x.2,y.block<W.heap.size)→(∀ n∈x.1.weights Tryz.prog (slT kd),n≤140737488351232)→∃ l,At (Lo W.heap.size) W (.r kd) v (.row kd l)
theorem el_exprs (fuel:Nat) (ih:RowsTo enc W fuel) (cs:List Value) (x:DataW H × List MemPlace) (hl:cs.length=4) (h:DataW.trod enc Tryz.prog W 0 (fun _=>true) true fuel 51 cs=some x) (hlt:∀ y∈x.2,y.block<W.heap.size) (hw:∀ n∈x.1.weights Tryz.prog 51,n≤140737488351232):∃ ls,Fz (Lo W.heap.size) W (shp .exprs) cs ls:=by
 obtain⟨xs,n,rfl,rfl,_,hlen,hfd⟩:=DataW.trod_struct Tryz.underlying51 h;match cs,hl with
 | [c0,c1,c2,c3],_ =>
  match xs,hlen with
  | [y0,y1,y2,y3],_ =>
   have h0:DataW.trod enc Tryz.prog W 0 (fun _=>true) true n 3 ([c0,c1,c2,c3].take (Tryz.prog.cellsOf 3))=some y0:=hfd 0 _ rfl;rw [cells_int,show [c0,c1,c2,c3].take 1=[c0] from rfl] at h0;obtain⟨m0,e0,_,_⟩:=DataW.trod_int Tryz.underlying3 h0;obtain rfl:c0=.int .i64 m0:=(by simpa using e0);have h1:DataW.trod enc Tryz.prog W 0 (fun _=>true) true n 3 ([c1,c2,c3].take (Tryz.prog.cellsOf 3))=some y1:=hfd 1 _ rfl;rw [cells_int,show [c1,c2,c3].take 1=[c1] from rfl] at h1;obtain⟨m1,e1,_,_⟩:=DataW.trod_int Tryz.underlying3 h1;obtain rfl:c1=.int .i64 m1:=(by simpa using e1);have h2:DataW.trod enc Tryz.prog W 0 (fun _=>true) true n 9 ([c2,c3].take (Tryz.prog.cellsOf 9))=some y2:=hfd 2 _ rfl;rw [cells_string,show [c2,c3].take 1=[c2] from rfl] at h2;have p2:∀ z∈y2.2,z.block<W.heap.size:=(fun z hz=>hlt z (List.mem_flatMap.2 ⟨y2,by simp,hz⟩));have w2:∀ q∈y2.1.weights Tryz.prog 9,q≤140737488351232:=fun q hq=>hw q (by
    simp only [DataW.weights,Tryz.underlying51];exact DataW.weights_mem_each (j:=2) rfl rfl q hq)
   obtain⟨s2,e2,g2,_⟩:=DataW.trod_string Tryz.underlying9 h2;obtain rfl:c2=.string s2:=(by simpa using e2);have z2:s2.size≤140737488351232:=by
    rw [g2] at w2;have:=w2 s2.data.toList.length (by simp [DataW.weights]);rw [len_data] at this;exact this
   have h3:DataW.trod enc Tryz.prog W 0 (fun _=>true) true n 49 ([c3].take (Tryz.prog.cellsOf 49))=some y3:=hfd 3 _ rfl;rw [cells_SExpr,show [c3].take 1=[c3] from rfl] at h3;have p3:∀ z∈y3.2,z.block<W.heap.size:=(fun z hz=>hlt z (List.mem_flatMap.2 ⟨y3,by simp,hz⟩));have w3:∀ q∈y3.1.weights Tryz.prog 49,q≤140737488351232:=fun q hq=>hw q (by
    simp only [DataW.weights,Tryz.underlying51];exact DataW.weights_mem_each (j:=3) rfl rfl q hq)
   obtain⟨l3,a3⟩:=ih n (by omega) .exprs c3 y3 h3 p3 w3;exact⟨_,(.cons (.n m0) (.cons (.n m1) (.cons (.s s2 z2) (.cons a3 .nil))))⟩
theorem el_weights (fuel:Nat) (ih:RowsTo enc W fuel) (cs:List Value) (x:DataW H × List MemPlace) (hl:cs.length=4) (h:DataW.trod enc Tryz.prog W 0 (fun _=>true) true fuel 45 cs=some x) (hlt:∀ y∈x.2,y.block<W.heap.size) (hw:∀ n∈x.1.weights Tryz.prog 45,n≤140737488351232):∃ ls,Fz (Lo W.heap.size) W (shp .weights) cs ls:=by
 obtain⟨xs,n,rfl,rfl,_,hlen,hfd⟩:=DataW.trod_struct Tryz.underlying45 h;match cs,hl with
 | [c0,c1,c2,c3],_ =>
  match xs,hlen with
  | [y0,y1,y2,y3],_ =>
   have h0:DataW.trod enc Tryz.prog W 0 (fun _=>true) true n 3 ([c0,c1,c2,c3].take (Tryz.prog.cellsOf 3))=some y0:=hfd 0 _ rfl;rw [cells_int,show [c0,c1,c2,c3].take 1=[c0] from rfl] at h0;obtain⟨m0,e0,_,_⟩:=DataW.trod_int Tryz.underlying3 h0;obtain rfl:c0=.int .i64 m0:=(by simpa using e0);have h1:DataW.trod enc Tryz.prog W 0 (fun _=>true) true n 3 ([c1,c2,c3].take (Tryz.prog.cellsOf 3))=some y1:=hfd 1 _ rfl;rw [cells_int,show [c1,c2,c3].take 1=[c1] from rfl] at h1;obtain⟨m1,e1,_,_⟩:=DataW.trod_int Tryz.underlying3 h1;obtain rfl:c1=.int .i64 m1:=(by simpa using e1);have h2:DataW.trod enc Tryz.prog W 0 (fun _=>true) true n 3 ([c2,c3].take (Tryz.prog.cellsOf 3))=some y2:=hfd 2 _ rfl;rw [cells_int,show [c2,c3].take 1=[c2] from rfl] at h2;obtain⟨m2,e2,_,_⟩:=DataW.trod_int Tryz.underlying3 h2;obtain rfl:c2=.int .i64 m2:=(by simpa using e2);have h3:DataW.trod enc Tryz.prog W 0 (fun _=>true) true n 4 ([c3].take (Tryz.prog.cellsOf 4))=some y3:=hfd 3 _ rfl;rw [cells_bool,show [c3].take 1=[c3] from rfl] at h3;obtain⟨m3,e3,_⟩:=DataW.trod_bool Tryz.underlying4 h3;obtain rfl:c3=.bool m3:=(by simpa using e3);exact⟨_,(.cons (.n m0) (.cons (.n m1) (.cons (.n m2) (.cons (.b m3) .nil))))⟩
theorem el_items (fuel:Nat) (ih:RowsTo enc W fuel) (cs:List Value) (x:DataW H × List MemPlace) (hl:cs.length=12) (h:DataW.trod enc Tryz.prog W 0 (fun _=>true) true fuel 53 cs=some x) (hlt:∀ y∈x.2,y.block<W.heap.size) (hw:∀ n∈x.1.weights Tryz.prog 53,n≤140737488351232):∃ ls,Fz (Lo W.heap.size) W (shp .items) cs ls:=by
 obtain⟨xs,n,rfl,rfl,_,hlen,hfd⟩:=DataW.trod_struct Tryz.underlying53 h;match cs,hl with
 | [c0,c1,c2,c3,c4,c5,c6,c7,c8,c9,c10,c11],_ =>
  match xs,hlen with
  | [y0,y1,y2,y3,y4,y5,y6,y7,y8],_ =>
   have h0:DataW.trod enc Tryz.prog W 0 (fun _=>true) true n 3 ([c0,c1,c2,c3,c4,c5,c6,c7,c8,c9,c10,c11].take (Tryz.prog.cellsOf 3))=some y0:=hfd 0 _ rfl;rw [cells_int,show [c0,c1,c2,c3,c4,c5,c6,c7,c8,c9,c10,c11].take 1=[c0] from rfl] at h0;obtain⟨m0,e0,_,_⟩:=DataW.trod_int Tryz.underlying3 h0;obtain rfl:c0=.int .i64 m0:=(by simpa using e0);have h1:DataW.trod enc Tryz.prog W 0 (fun _=>true) true n 51 ([c1,c2,c3,c4,c5,c6,c7,c8,c9,c10,c11].take (Tryz.prog.cellsOf 51))=some y1:=hfd 1 _ rfl;rw [cells_Expr,show [c1,c2,c3,c4,c5,c6,c7,c8,c9,c10,c11].take 4=[c1,c2,c3,c4] from rfl] at h1;have p1:∀ z∈y1.2,z.block<W.heap.size:=(fun z hz=>hlt z (List.mem_flatMap.2 ⟨y1,by simp,hz⟩));have w1:∀ q∈y1.1.weights Tryz.prog 51,q≤140737488351232:=fun q hq=>hw q (by
    simp only [DataW.weights,Tryz.underlying53];exact DataW.weights_mem_each (j:=1) rfl rfl q hq)
   obtain⟨ls1,a1⟩:=el_exprs n (fun m hm=>ih m (by omega)) [c1,c2,c3,c4] y1 rfl h1 p1 w1;have h2:DataW.trod enc Tryz.prog W 0 (fun _=>true) true n 9 ([c5,c6,c7,c8,c9,c10,c11].take (Tryz.prog.cellsOf 9))=some y2:=hfd 2 _ rfl;rw [cells_string,show [c5,c6,c7,c8,c9,c10,c11].take 1=[c5] from rfl] at h2;have p2:∀ z∈y2.2,z.block<W.heap.size:=(fun z hz=>hlt z (List.mem_flatMap.2 ⟨y2,by simp,hz⟩));have w2:∀ q∈y2.1.weights Tryz.prog 9,q≤140737488351232:=fun q hq=>hw q (by
    simp only [DataW.weights,Tryz.underlying53];exact DataW.weights_mem_each (j:=2) rfl rfl q hq)
   obtain⟨s2,e2,g2,_⟩:=DataW.trod_string Tryz.underlying9 h2;obtain rfl:c5=.string s2:=(by simpa using e2);have z2:s2.size≤140737488351232:=by
    rw [g2] at w2;have:=w2 s2.data.toList.length (by simp [DataW.weights]);rw [len_data] at this;exact this
   have h3:DataW.trod enc Tryz.prog W 0 (fun _=>true) true n 9 ([c6,c7,c8,c9,c10,c11].take (Tryz.prog.cellsOf 9))=some y3:=hfd 3 _ rfl;rw [cells_string,show [c6,c7,c8,c9,c10,c11].take 1=[c6] from rfl] at h3;have p3:∀ z∈y3.2,z.block<W.heap.size:=(fun z hz=>hlt z (List.mem_flatMap.2 ⟨y3,by simp,hz⟩));have w3:∀ q∈y3.1.weights Tryz.prog 9,q≤140737488351232:=fun q hq=>hw q (by
    simp only [DataW.weights,Tryz.underlying53];exact DataW.weights_mem_each (j:=3) rfl rfl q hq)
   obtain⟨s3,e3,g3,_⟩:=DataW.trod_string Tryz.underlying9 h3;obtain rfl:c6=.string s3:=(by simpa using e3);have z3:s3.size≤140737488351232:=by
    rw [g3] at w3;have:=w3 s3.data.toList.length (by simp [DataW.weights]);rw [len_data] at this;exact this
   have h4:DataW.trod enc Tryz.prog W 0 (fun _=>true) true n 22 ([c7,c8,c9,c10,c11].take (Tryz.prog.cellsOf 22))=some y4:=hfd 4 _ rfl;rw [cells_SWeight,show [c7,c8,c9,c10,c11].take 1=[c7] from rfl] at h4;have p4:∀ z∈y4.2,z.block<W.heap.size:=(fun z hz=>hlt z (List.mem_flatMap.2 ⟨y4,by simp,hz⟩));have w4:∀ q∈y4.1.weights Tryz.prog 22,q≤140737488351232:=fun q hq=>hw q (by
    simp only [DataW.weights,Tryz.underlying53];exact DataW.weights_mem_each (j:=4) rfl rfl q hq)
   obtain⟨l4,a4⟩:=ih n (by omega) .weights c7 y4 h4 p4 w4;have h5:DataW.trod enc Tryz.prog W 0 (fun _=>true) true n 26 ([c8,c9,c10,c11].take (Tryz.prog.cellsOf 26))=some y5:=hfd 5 _ rfl;rw [cells_SItem,show [c8,c9,c10,c11].take 1=[c8] from rfl] at h5;have p5:∀ z∈y5.2,z.block<W.heap.size:=(fun z hz=>hlt z (List.mem_flatMap.2 ⟨y5,by simp,hz⟩));have w5:∀ q∈y5.1.weights Tryz.prog 26,q≤140737488351232:=fun q hq=>hw q (by
    simp only [DataW.weights,Tryz.underlying53];exact DataW.weights_mem_each (j:=5) rfl rfl q hq)
   obtain⟨l5,a5⟩:=ih n (by omega) .items c8 y5 h5 p5 w5;have h6:DataW.trod enc Tryz.prog W 0 (fun _=>true) true n 26 ([c9,c10,c11].take (Tryz.prog.cellsOf 26))=some y6:=hfd 6 _ rfl;rw [cells_SItem,show [c9,c10,c11].take 1=[c9] from rfl] at h6;have p6:∀ z∈y6.2,z.block<W.heap.size:=(fun z hz=>hlt z (List.mem_flatMap.2 ⟨y6,by simp,hz⟩));have w6:∀ q∈y6.1.weights Tryz.prog 26,q≤140737488351232:=fun q hq=>hw q (by
    simp only [DataW.weights,Tryz.underlying53];exact DataW.weights_mem_each (j:=6) rfl rfl q hq)
   obtain⟨l6,a6⟩:=ih n (by omega) .items c9 y6 h6 p6 w6;have h7:DataW.trod enc Tryz.prog W 0 (fun _=>true) true n 43 ([c10,c11].take (Tryz.prog.cellsOf 43))=some y7:=hfd 7 _ rfl;rw [cells_Sstring,show [c10,c11].take 1=[c10] from rfl] at h7;have p7:∀ z∈y7.2,z.block<W.heap.size:=(fun z hz=>hlt z (List.mem_flatMap.2 ⟨y7,by simp,hz⟩));have w7:∀ q∈y7.1.weights Tryz.prog 43,q≤140737488351232:=fun q hq=>hw q (by
    simp only [DataW.weights,Tryz.underlying53];exact DataW.weights_mem_each (j:=7) rfl rfl q hq)
   obtain⟨l7,a7⟩:=ih n (by omega) .strs c10 y7 h7 p7 w7;have h8:DataW.trod enc Tryz.prog W 0 (fun _=>true) true n 43 ([c11].take (Tryz.prog.cellsOf 43))=some y8:=hfd 8 _ rfl;rw [cells_Sstring,show [c11].take 1=[c11] from rfl] at h8;have p8:∀ z∈y8.2,z.block<W.heap.size:=(fun z hz=>hlt z (List.mem_flatMap.2 ⟨y8,by simp,hz⟩));have w8:∀ q∈y8.1.weights Tryz.prog 43,q≤140737488351232:=fun q hq=>hw q (by
    simp only [DataW.weights,Tryz.underlying53];exact DataW.weights_mem_each (j:=8) rfl rfl q hq)
   obtain⟨l8,a8⟩:=ih n (by omega) .strs c11 y8 h8 p8 w8;cases a1 with
   | cons b0 r1=>cases r1 with
    | cons b1 r2=>cases r2 with
     | cons b2 r3=>cases r3 with
      | cons b3 r4=>cases r4 with
       | nil =>
        exact⟨_,(.cons (.n m0) (.cons b0 (.cons b1 (.cons b2 (.cons b3 (.cons (.s s2 z2) (.cons (.s s3 z3) (.cons a4 (.cons a5 (.cons a6 (.cons a7 (.cons a8 .nil))))))))))))⟩
theorem el_fields (fuel:Nat) (ih:RowsTo enc W fuel) (cs:List Value) (x:DataW H × List MemPlace) (hl:cs.length=5) (h:DataW.trod enc Tryz.prog W 0 (fun _=>true) true fuel 55 cs=some x) (hlt:∀ y∈x.2,y.block<W.heap.size) (hw:∀ n∈x.1.weights Tryz.prog 55,n≤140737488351232):∃ ls,Fz (Lo W.heap.size) W (shp .fields) cs ls:=by
 obtain⟨xs,n,rfl,rfl,_,hlen,hfd⟩:=DataW.trod_struct Tryz.underlying55 h;match cs,hl with
 | [c0,c1,c2,c3,c4],_ =>
  match xs,hlen with
  | [y0,y1,y2,y3,y4],_ =>
   have h0:DataW.trod enc Tryz.prog W 0 (fun _=>true) true n 9 ([c0,c1,c2,c3,c4].take (Tryz.prog.cellsOf 9))=some y0:=hfd 0 _ rfl;rw [cells_string,show [c0,c1,c2,c3,c4].take 1=[c0] from rfl] at h0;have p0:∀ z∈y0.2,z.block<W.heap.size:=(fun z hz=>hlt z (List.mem_flatMap.2 ⟨y0,by simp,hz⟩));have w0:∀ q∈y0.1.weights Tryz.prog 9,q≤140737488351232:=fun q hq=>hw q (by
    simp only [DataW.weights,Tryz.underlying55];exact DataW.weights_mem_each (j:=0) rfl rfl q hq)
   obtain⟨s0,e0,g0,_⟩:=DataW.trod_string Tryz.underlying9 h0;obtain rfl:c0=.string s0:=(by simpa using e0);have z0:s0.size≤140737488351232:=by
    rw [g0] at w0;have:=w0 s0.data.toList.length (by simp [DataW.weights]);rw [len_data] at this;exact this
   have h1:DataW.trod enc Tryz.prog W 0 (fun _=>true) true n 3 ([c1,c2,c3,c4].take (Tryz.prog.cellsOf 3))=some y1:=hfd 1 _ rfl;rw [cells_int,show [c1,c2,c3,c4].take 1=[c1] from rfl] at h1;obtain⟨m1,e1,_,_⟩:=DataW.trod_int Tryz.underlying3 h1;obtain rfl:c1=.int .i64 m1:=(by simpa using e1);have h2:DataW.trod enc Tryz.prog W 0 (fun _=>true) true n 3 ([c2,c3,c4].take (Tryz.prog.cellsOf 3))=some y2:=hfd 2 _ rfl;rw [cells_int,show [c2,c3,c4].take 1=[c2] from rfl] at h2;obtain⟨m2,e2,_,_⟩:=DataW.trod_int Tryz.underlying3 h2;obtain rfl:c2=.int .i64 m2:=(by simpa using e2);have h3:DataW.trod enc Tryz.prog W 0 (fun _=>true) true n 3 ([c3,c4].take (Tryz.prog.cellsOf 3))=some y3:=hfd 3 _ rfl;rw [cells_int,show [c3,c4].take 1=[c3] from rfl] at h3;obtain⟨m3,e3,_,_⟩:=DataW.trod_int Tryz.underlying3 h3;obtain rfl:c3=.int .i64 m3:=(by simpa using e3);have h4:DataW.trod enc Tryz.prog W 0 (fun _=>true) true n 3 ([c4].take (Tryz.prog.cellsOf 3))=some y4:=hfd 4 _ rfl;rw [cells_int,show [c4].take 1=[c4] from rfl] at h4;obtain⟨m4,e4,_,_⟩:=DataW.trod_int Tryz.underlying3 h4;obtain rfl:c4=.int .i64 m4:=(by simpa using e4);exact⟨_,(.cons (.s s0 z0) (.cons (.n m1) (.cons (.n m2) (.cons (.n m3) (.cons (.n m4) .nil)))))⟩
theorem el_blocks (fuel:Nat) (ih:RowsTo enc W fuel) (cs:List Value) (x:DataW H × List MemPlace) (hl:cs.length=2) (h:DataW.trod enc Tryz.prog W 0 (fun _=>true) true fuel 57 cs=some x) (hlt:∀ y∈x.2,y.block<W.heap.size) (hw:∀ n∈x.1.weights Tryz.prog 57,n≤140737488351232):∃ ls,Fz (Lo W.heap.size) W (shp .blocks) cs ls:=by
 obtain⟨xs,n,rfl,rfl,_,hlen,hfd⟩:=DataW.trod_struct Tryz.underlying57 h;match cs,hl with
 | [c0,c1],_ =>
  match xs,hlen with
  | [y0,y1],_ =>
   have h0:DataW.trod enc Tryz.prog W 0 (fun _=>true) true n 9 ([c0,c1].take (Tryz.prog.cellsOf 9))=some y0:=hfd 0 _ rfl;rw [cells_string,show [c0,c1].take 1=[c0] from rfl] at h0;have p0:∀ z∈y0.2,z.block<W.heap.size:=(fun z hz=>hlt z (List.mem_flatMap.2 ⟨y0,by simp,hz⟩));have w0:∀ q∈y0.1.weights Tryz.prog 9,q≤140737488351232:=fun q hq=>hw q (by
    simp only [DataW.weights,Tryz.underlying57];exact DataW.weights_mem_each (j:=0) rfl rfl q hq)
   obtain⟨s0,e0,g0,_⟩:=DataW.trod_string Tryz.underlying9 h0;obtain rfl:c0=.string s0:=(by simpa using e0);have z0:s0.size≤140737488351232:=by
    rw [g0] at w0;have:=w0 s0.data.toList.length (by simp [DataW.weights]);rw [len_data] at this;exact this
   have h1:DataW.trod enc Tryz.prog W 0 (fun _=>true) true n 26 ([c1].take (Tryz.prog.cellsOf 26))=some y1:=hfd 1 _ rfl;rw [cells_SItem,show [c1].take 1=[c1] from rfl] at h1;have p1:∀ z∈y1.2,z.block<W.heap.size:=(fun z hz=>hlt z (List.mem_flatMap.2 ⟨y1,by simp,hz⟩));have w1:∀ q∈y1.1.weights Tryz.prog 26,q≤140737488351232:=fun q hq=>hw q (by
    simp only [DataW.weights,Tryz.underlying57];exact DataW.weights_mem_each (j:=1) rfl rfl q hq)
   obtain⟨l1,a1⟩:=ih n (by omega) .items c1 y1 h1 p1 w1;exact⟨_,(.cons (.s s0 z0) (.cons a1 .nil))⟩
theorem el_classes (fuel:Nat) (ih:RowsTo enc W fuel) (cs:List Value) (x:DataW H × List MemPlace) (hl:cs.length=4) (h:DataW.trod enc Tryz.prog W 0 (fun _=>true) true fuel 32 cs=some x) (hlt:∀ y∈x.2,y.block<W.heap.size) (hw:∀ n∈x.1.weights Tryz.prog 32,n≤140737488351232):∃ ls,Fz (Lo W.heap.size) W (shp .classes) cs ls:=by
 obtain⟨xs,n,rfl,rfl,_,hlen,hfd⟩:=DataW.trod_struct Tryz.underlying32 h;match cs,hl with
 | [c0,c1,c2,c3],_ =>
  match xs,hlen with
  | [y0,y1,y2,y3],_ =>
   have h0:DataW.trod enc Tryz.prog W 0 (fun _=>true) true n 9 ([c0,c1,c2,c3].take (Tryz.prog.cellsOf 9))=some y0:=hfd 0 _ rfl;rw [cells_string,show [c0,c1,c2,c3].take 1=[c0] from rfl] at h0;have p0:∀ z∈y0.2,z.block<W.heap.size:=(fun z hz=>hlt z (List.mem_flatMap.2 ⟨y0,by simp,hz⟩));have w0:∀ q∈y0.1.weights Tryz.prog 9,q≤140737488351232:=fun q hq=>hw q (by
    simp only [DataW.weights,Tryz.underlying32];exact DataW.weights_mem_each (j:=0) rfl rfl q hq)
   obtain⟨s0,e0,g0,_⟩:=DataW.trod_string Tryz.underlying9 h0;obtain rfl:c0=.string s0:=(by simpa using e0);have z0:s0.size≤140737488351232:=by
    rw [g0] at w0;have:=w0 s0.data.toList.length (by simp [DataW.weights]);rw [len_data] at this;exact this
   have h1:DataW.trod enc Tryz.prog W 0 (fun _=>true) true n 9 ([c1,c2,c3].take (Tryz.prog.cellsOf 9))=some y1:=hfd 1 _ rfl;rw [cells_string,show [c1,c2,c3].take 1=[c1] from rfl] at h1;have p1:∀ z∈y1.2,z.block<W.heap.size:=(fun z hz=>hlt z (List.mem_flatMap.2 ⟨y1,by simp,hz⟩));have w1:∀ q∈y1.1.weights Tryz.prog 9,q≤140737488351232:=fun q hq=>hw q (by
    simp only [DataW.weights,Tryz.underlying32];exact DataW.weights_mem_each (j:=1) rfl rfl q hq)
   obtain⟨s1,e1,g1,_⟩:=DataW.trod_string Tryz.underlying9 h1;obtain rfl:c1=.string s1:=(by simpa using e1);have z1:s1.size≤140737488351232:=by
    rw [g1] at w1;have:=w1 s1.data.toList.length (by simp [DataW.weights]);rw [len_data] at this;exact this
   have h2:DataW.trod enc Tryz.prog W 0 (fun _=>true) true n 29 ([c2,c3].take (Tryz.prog.cellsOf 29))=some y2:=hfd 2 _ rfl;rw [cells_SField,show [c2,c3].take 1=[c2] from rfl] at h2;have p2:∀ z∈y2.2,z.block<W.heap.size:=(fun z hz=>hlt z (List.mem_flatMap.2 ⟨y2,by simp,hz⟩));have w2:∀ q∈y2.1.weights Tryz.prog 29,q≤140737488351232:=fun q hq=>hw q (by
    simp only [DataW.weights,Tryz.underlying32];exact DataW.weights_mem_each (j:=2) rfl rfl q hq)
   obtain⟨l2,a2⟩:=ih n (by omega) .fields c2 y2 h2 p2 w2;have h3:DataW.trod enc Tryz.prog W 0 (fun _=>true) true n 30 ([c3].take (Tryz.prog.cellsOf 30))=some y3:=hfd 3 _ rfl;rw [cells_SBlock,show [c3].take 1=[c3] from rfl] at h3;have p3:∀ z∈y3.2,z.block<W.heap.size:=(fun z hz=>hlt z (List.mem_flatMap.2 ⟨y3,by simp,hz⟩));have w3:∀ q∈y3.1.weights Tryz.prog 30,q≤140737488351232:=fun q hq=>hw q (by
    simp only [DataW.weights,Tryz.underlying32];exact DataW.weights_mem_each (j:=3) rfl rfl q hq)
   obtain⟨l3,a3⟩:=ih n (by omega) .blocks c3 y3 h3 p3 w3;exact⟨_,(.cons (.s s0 z0) (.cons (.s s1 z1) (.cons a2 (.cons a3 .nil))))⟩
theorem el_strs (fuel:Nat) (cs:List Value) (x:DataW H × List MemPlace) (hl:cs.length=1) (h:DataW.trod enc Tryz.prog W 0 (fun _=>true) true fuel 9 cs=some x) (hw:∀ n∈x.1.weights Tryz.prog 9,n≤140737488351232):∃ ls,Fz (Lo W.heap.size) W (shp .strs) cs ls:=by
 match cs,hl with
 | [c0],_ =>
  obtain⟨s0,e0,g0,_⟩:=DataW.trod_string Tryz.underlying9 h;obtain rfl:c0=.string s0:=(by simpa using e0);have z0:s0.size≤140737488351232:=by
   rw [g0] at hw;have:=hw s0.data.toList.length (by simp [DataW.weights]);rw [len_data] at this;exact this
  exact⟨_,.cons (.s s0 z0) .nil⟩
theorem open_rows:∀ fuel:Nat,RowsTo enc W fuel:=by
 intro fuel;induction fuel with
 | zero=>intro m hm;omega
 | succ k ih =>
  intro m hm kd v x h hlt hw;have ihm:∀ j,j<m→RowsTo enc W j:=(fun j hj i hi=>ih i (by omega));cases kd with
  | exprs=>exact row_of .exprs _ _ Tryz.underlying49 cells_Expr bytes_Expr (by decide) m (fun j cs x hj hl h hlt hw=>el_exprs j (ihm j hj) cs x hl h hlt hw) v x h hlt hw
  | weights=>exact row_of .weights _ _ Tryz.underlying22 cells_Weight bytes_Weight (by decide) m (fun j cs x hj hl h hlt hw=>el_weights j (ihm j hj) cs x hl h hlt hw) v x h hlt hw
  | items=>exact row_of .items _ _ Tryz.underlying26 cells_Item bytes_Item (by decide) m (fun j cs x hj hl h hlt hw=>el_items j (ihm j hj) cs x hl h hlt hw) v x h hlt hw
  | strs=>exact row_of .strs _ _ Tryz.underlying43 cells_string bytes_string (by decide) m (fun j cs x hj hl h hlt hw=>el_strs j cs x hl h hw) v x h hlt hw
  | fields=>exact row_of .fields _ _ Tryz.underlying29 cells_Field bytes_Field (by decide) m (fun j cs x hj hl h hlt hw=>el_fields j (ihm j hj) cs x hl h hlt hw) v x h hlt hw
  | blocks=>exact row_of .blocks _ _ Tryz.underlying30 cells_Block bytes_Block (by decide) m (fun j cs x hj hl h hlt hw=>el_blocks j (ihm j hj) cs x hl h hlt hw) v x h hlt hw
  | classes=>exact row_of .classes _ _ Tryz.underlying35 cells_Class bytes_Class (by decide) m (fun j cs x hj hl h hlt hw=>el_classes j (ihm j hj) cs x hl h hlt hw) v x h hlt hw
end
theorem all_of {α β:Type} {f:α→β}:∀ {l:List β},(∀ x∈l,∃ a,f a=x)→∃ r:List α,r.map f=l
 | [],_=>⟨[],rfl⟩
 | x::l,h=>by
  obtain⟨a,rfl⟩:=h x (List.mem_cons_self ..);obtain⟨r,rfl⟩:=all_of (fun x hx=>h x (List.mem_cons_of_mem _ hx));exact⟨a::r,rfl⟩
theorem At.flds {S:Nat→Prop} {W:World} {v:Value} {l:List (List Lf)} (h:At S W (.r .fields) v (.row .fields l)):∃ fs:List Fld,fs.map Fld.lf=l:=by
 obtain⟨p,cap,F,rfl,r⟩:=h.rowOf;refine all_of (fun x hx=>?_);obtain⟨i,hi⟩:=List.getElem?_of_mem hx;have hw:=r.hw i x hi;match x,hw with
 | [y0,y1,y2,y3,y4],_ =>
  obtain⟨a0,_,rfl,_⟩:=(r.hx i _ 0 y0 .s hi rfl rfl).sInv;obtain⟨a1,_,rfl⟩:=(r.hx i _ 1 y1 .n hi rfl rfl).nInv;obtain⟨a2,_,rfl⟩:=(r.hx i _ 2 y2 .n hi rfl rfl).nInv;obtain⟨a3,_,rfl⟩:=(r.hx i _ 3 y3 .n hi rfl rfl).nInv;obtain⟨a4,_,rfl⟩:=(r.hx i _ 4 y4 .n hi rfl rfl).nInv;exact⟨⟨a0,a1,a2,a3,a4⟩,rfl⟩
theorem At.bks {S:Nat→Prop} {W:World} {v:Value} {l:List (List Lf)} (h:At S W (.r .blocks) v (.row .blocks l)):∃ fs:List Bk,fs.map Bk.lf=l:=by
 obtain⟨p,cap,F,rfl,r⟩:=h.rowOf;refine all_of (fun x hx=>?_);obtain⟨i,hi⟩:=List.getElem?_of_mem hx;have hw:=r.hw i x hi;match x,hw with
 | [y0,y1],_ =>
  obtain⟨a0,_,rfl,_⟩:=(r.hx i _ 0 y0 .s hi rfl rfl).sInv;obtain⟨l1,_,_,_,rfl,_,_⟩:=(r.hx i _ 1 y1 (.r .items) hi rfl rfl).form;exact⟨⟨a0,l1⟩,rfl⟩
end ClW
namespace CtO
open Go Go.RowKit Go.ChangeShapes Go.WideShapes Go.ChangeAt NumM LexM LexW ExM ExW ItM ItW CtM CtW
open ClW (add_at pick_list weights_in)
open ClM (Fld)
open ClW (At RowA Lo CV)
section
variable {H:Type} {enc:TypeId × Value→H} {W:World}
def BkP (W:World) (cs:List Value) (d:DataW H) (b:ByteArray × List It):Prop :=
 (∃ v,cs=[.string b.1,v]∧b.1.size≤140737488351232∧ItsA W.heap.size W v b.2)∧bzL b.2≤Rows.uptoBulk d
theorem open_bk (fuel:Nat) (cs:List Value) (x:DataW H × List MemPlace) (hl:cs.length=2) (h:DataW.trod enc Tryz.prog W 0 (fun _=>true) true fuel 57 cs=some x) (hlt:∀ y∈x.2,y.block<W.heap.size) (hw:∀ n∈x.1.weights Tryz.prog 57,n≤140737488351232):∃ b,BkP W cs x.1 b:=by
 obtain⟨xs,n,rfl,rfl,_,hlen,hfd⟩:=DataW.trod_struct Tryz.underlying57 h;match cs,hl with
 | [c0,c1],_ =>
  match xs,hlen with
  | [y0,y1],_ =>
   have h0:DataW.trod enc Tryz.prog W 0 (fun _=>true) true n 9 ([c0,c1].take (Tryz.prog.cellsOf 9))=some y0:=hfd 0 _ rfl;rw [ClW.cells_string,show [c0,c1].take 1=[c0] from rfl] at h0;obtain⟨s0,e0,g0,_⟩:=DataW.trod_string Tryz.underlying9 h0;obtain rfl:c0=.string s0:=(by simpa using e0);have w0:∀ q∈y0.1.weights Tryz.prog 9,q≤140737488351232:=fun q hq=>hw q (by
    simp only [DataW.weights,Tryz.underlying57];exact DataW.weights_mem_each (j:=0) rfl rfl q hq)
   have z0:s0.size≤140737488351232:=by
    rw [g0] at w0;have:=w0 s0.data.toList.length (by simp [DataW.weights]);rw [len_data] at this;exact this
   have h1:DataW.trod enc Tryz.prog W 0 (fun _=>true) true n 26 ([c1].take (Tryz.prog.cellsOf 26))=some y1:=hfd 1 _ rfl;rw [ClW.cells_SItem,show [c1].take 1=[c1] from rfl] at h1;have p1:∀ z∈y1.2,z.block<W.heap.size:=(fun z hz=>hlt z (List.mem_flatMap.2 ⟨y1,by simp,hz⟩));have w1:∀ q∈y1.1.weights Tryz.prog 26,q≤140737488351232:=fun q hq=>hw q (by
    simp only [DataW.weights,Tryz.underlying57];exact DataW.weights_mem_each (j:=1) rfl rfl q hq)
   obtain⟨l1,a1,b1⟩:=open_itemsF n c1 y1 h1 p1 w1;refine⟨(s0,l1),⟨c1,rfl,z0,a1⟩,?_⟩;have e9:∀ (A B:DataW H),Rows.uptoBulk (.agg [A,B])=Rows.uptoBulk A+(Rows.uptoBulk B+0)+1:=(fun _ _=>by simp only [Rows.uptoBulk,Rows.uptoBulkAll]);simp only [List.map_cons,List.map_nil];rw [e9];omega
def KlP (W:World) (cs:List Value) (d:DataW H) (k:Kl):Prop :=
 (∃ pf cf pk ck,cs=[.string k.nm,.string k.par,.slice pf k.fs.length cf,.slice pk k.bs.length ck]∧KA W.heap.size W pf cf pk ck k)∧bzK k≤Rows.uptoBulk d
theorem open_kl (fuel:Nat) (cs:List Value) (x:DataW H × List MemPlace) (hl:cs.length=4) (h:DataW.trod enc Tryz.prog W 0 (fun _=>true) true fuel 32 cs=some x) (hlt:∀ y∈x.2,y.block<W.heap.size) (hw:∀ n∈x.1.weights Tryz.prog 32,n≤140737488351232):∃ k,KlP W cs x.1 k:=by
 obtain⟨xs,n,rfl,rfl,_,hlen,hfd⟩:=DataW.trod_struct Tryz.underlying32 h;match cs,hl with
 | [c0,c1,c2,c3],_ =>
  match xs,hlen with
  | [y0,y1,y2,y3],_ =>
   have h0:DataW.trod enc Tryz.prog W 0 (fun _=>true) true n 9 ([c0,c1,c2,c3].take (Tryz.prog.cellsOf 9))=some y0:=hfd 0 _ rfl;rw [ClW.cells_string,show [c0,c1,c2,c3].take 1=[c0] from rfl] at h0;have h1:DataW.trod enc Tryz.prog W 0 (fun _=>true) true n 9 ([c1,c2,c3].take (Tryz.prog.cellsOf 9))=some y1:=hfd 1 _ rfl;rw [ClW.cells_string,show [c1,c2,c3].take 1=[c1] from rfl] at h1;have h2:DataW.trod enc Tryz.prog W 0 (fun _=>true) true n 29 ([c2,c3].take (Tryz.prog.cellsOf 29))=some y2:=hfd 2 _ rfl;rw [ClW.cells_SField,show [c2,c3].take 1=[c2] from rfl] at h2;have h3:DataW.trod enc Tryz.prog W 0 (fun _=>true) true n 30 ([c3].take (Tryz.prog.cellsOf 30))=some y3:=hfd 3 _ rfl;rw [ClW.cells_SBlock,show [c3].take 1=[c3] from rfl] at h3;obtain⟨s0,e0,g0,_⟩:=DataW.trod_string Tryz.underlying9 h0;obtain⟨s1,e1,g1,_⟩:=DataW.trod_string Tryz.underlying9 h1;obtain rfl:c0=.string s0:=(by simpa using e0);obtain rfl:c1=.string s1:=(by simpa using e1);have w0:∀ q∈y0.1.weights Tryz.prog 9,q≤140737488351232:=fun q hq=>hw q (by
    simp only [DataW.weights,Tryz.underlying32];exact DataW.weights_mem_each (j:=0) rfl rfl q hq)
   have z0:s0.size≤140737488351232:=by
    rw [g0] at w0;have:=w0 s0.data.toList.length (by simp [DataW.weights]);rw [len_data] at this;exact this
   have w1:∀ q∈y1.1.weights Tryz.prog 9,q≤140737488351232:=fun q hq=>hw q (by
    simp only [DataW.weights,Tryz.underlying32];exact DataW.weights_mem_each (j:=1) rfl rfl q hq)
   have z1:s1.size≤140737488351232:=by
    rw [g1] at w1;have:=w1 s1.data.toList.length (by simp [DataW.weights]);rw [len_data] at this;exact this
   have p2:∀ z∈y2.2,z.block<W.heap.size:=(fun z hz=>hlt z (List.mem_flatMap.2 ⟨y2,by simp,hz⟩));have w2:∀ q∈y2.1.weights Tryz.prog 29,q≤140737488351232:=fun q hq=>hw q (by
    simp only [DataW.weights,Tryz.underlying32];exact DataW.weights_mem_each (j:=2) rfl rfl q hq)
   have p3:∀ z∈y3.2,z.block<W.heap.size:=(fun z hz=>hlt z (List.mem_flatMap.2 ⟨y3,by simp,hz⟩));have w3:∀ q∈y3.1.weights Tryz.prog 30,q≤140737488351232:=fun q hq=>hw q (by
    simp only [DataW.weights,Tryz.underlying32];exact DataW.weights_mem_each (j:=3) rfl rfl q hq)
   obtain⟨ls,hat⟩:=ClW.open_rows (enc:=enc) (W:=W) (n+1) n (by omega) .fields c2 y2 (by simpa [ClW.slT] using h2) p2 w2;obtain⟨fs,rfl⟩:=hat.flds;obtain⟨pf,cf,_,ef,_⟩:=hat.rowOf;rw [List.length_map] at ef;subst ef;obtain⟨pk,ck,l,C,rfl,k1,k2,k3,k4,k5⟩:=open_row (W:=W) (enc:=enc) 30 57 2 40 Tryz.underlying30 ClW.cells_Block ClW.bytes_Block (by decide) (BkP W) n (fun m cs y _ hl h hlt hw=>open_bk m cs y hl h hlt hw) c3 y3 h3 p3 w3;refine⟨⟨s0,s1,fs,l⟩,⟨pf,cf,pk,ck,rfl,z0,z1,hat,pk,ck,fun i=>(C i).getD 1 (.bool false),rfl,k1,k2,fun i b hb=>?_,fun q0=>?_⟩,?_⟩
   ·obtain⟨d,⟨v,e,z,a⟩,_⟩:=k4 i b hb;simp only [];rw [e];exact⟨z,a⟩
   ·obtain⟨g,off,e,hg,hcell⟩:=k3 q0;refine⟨g,off,e,hg,fun i b hb=>?_⟩;obtain⟨d,⟨v,e',_,_⟩,_⟩:=k4 i b hb;have c:=(fun j hj=>hcell i b hb j hj);simp only [];rw [e'] at c ⊢;exact⟨c 0 (by decide),c 1 (by decide)⟩
   ·have q:=(k5 (fun b=>bzL b.2) fun _ _ _ h=>h.2);have e9:∀ (A B C D:DataW H),Rows.uptoBulk (.agg [A,B,C,D])=Rows.uptoBulk A+(Rows.uptoBulk B+(Rows.uptoBulk C+(Rows.uptoBulk D+0)))+1:=(fun _ _ _ _=>by simp only [Rows.uptoBulk,Rows.uptoBulkAll]);unfold bzK;simp only [List.map_cons,List.map_nil];rw [e9];omega
end
end CtO
end Go.Proofs.YtihnejaopejbgaaGreatDoor
