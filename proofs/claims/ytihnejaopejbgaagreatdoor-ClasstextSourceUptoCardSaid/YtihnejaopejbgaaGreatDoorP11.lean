/-
  Laws that the card uses; no conditions beside those that each states (EtTab EtLev ExIter).
-/
import Derived.Lib.QuietBelow
import Derived.RangeFuncBound
import Derived.Laws.EntriesVeiled
import Derived.RangeFuncLeaves
import Derived.Shelf.Abstract
import Derived.OwnWalkIn
import Derived.TacticsInMore
import Derived.LoopNIn
import Derived.LoopIn
import Derived.Test.YtihnejaopejbgaaGreatDoorP09
set_option maxRecDepth 100000
set_option maxHeartbeats 16000000
namespace Go.Proofs.YtihnejaopejbgaaGreatDoor
namespace EtW
open Go Go.RowKit NumM LexW LexM ExM ExW EtM
abbrev Row:=List UInt8 × Int × Int × Bool
def binRow:List Row:=[([61,62],2,21,false),([124,124],3,20,false),([38,38],4,19,false),([124],5,11,false),([94],6,12,false),([38],7,10,false),([61,61],8,15,false),([33,61],8,16,false),([60],9,17,false),([60,61],9,18,false),([62],9,17,true),([62,61],9,18,true),([60,60],10,13,false),([62,62],10,14,false),([43],11,7,false),([45],11,8,false),([42],12,9,false)]
def preRow:List (List UInt8 × Int):=[([33],4),([126],5),([45],6)]
def BinAt (w:World):Prop:=∃ b off c,w.cell? ⟨2,0,none⟩=some (.slice (some ⟨b,off,none⟩) 17 c)∧17≤c∧b<w.heap.size ∧
 ∀ i x,binRow[i]? = some x→w.cell? ⟨b,off+i*4,none⟩=some (.string (bs x.1))∧w.cell? ⟨b,off+i*4+1,none⟩=some (.int .i64 x.2.1)∧w.cell? ⟨b,off+i*4+2,none⟩=some (.int .i64 x.2.2.1)∧w.cell? ⟨b,off+i*4+3,none⟩=some (.bool x.2.2.2)
def PreAt (w:World):Prop:=∃ b off c,w.cell? ⟨3,0,none⟩=some (.slice (some ⟨b,off,none⟩) 3 c)∧3≤c∧b<w.heap.size ∧
 ∀ i x,preRow[i]? = some x→w.cell? ⟨b,off+i*2,none⟩=some (.string (bs x.1))∧w.cell? ⟨b,off+i*2+1,none⟩=some (.int .i64 x.2)
structure TabE (w:World):Prop where
 base:Tab w
 pow : Lib.TabIs Tryz.prog w "internal/strconv.uint64pow10" .u64 Lib.pow10Tab
 bin:BinAt w
 pre:PreAt w
theorem BinAt.later {w w':World} (h:BinAt w) (hb:Below w.heap.size w w'):BinAt w':=by
 obtain⟨b,off,c,h1,h2,h3,h4⟩:=h;refine⟨b,off,c,(hb.cell (p:=⟨2,0,none⟩) (cell_lt h1)).trans h1,h2,Nat.lt_of_lt_of_le h3 hb.size,fun i x hx=>?_⟩;rw [hb.cell h3,hb.cell h3,hb.cell h3,hb.cell h3];exact h4 i x hx
theorem PreAt.later {w w':World} (h:PreAt w) (hb:Below w.heap.size w w'):PreAt w':=by
 obtain⟨b,off,c,h1,h2,h3,h4⟩:=h;refine⟨b,off,c,(hb.cell (p:=⟨3,0,none⟩) (cell_lt h1)).trans h1,h2,Nat.lt_of_lt_of_le h3 hb.size,fun i x hx=>?_⟩;rw [hb.cell h3,hb.cell h3];exact h4 i x hx
def tBin (r:Row) (f:Bool) (w:World) (e:Ending) (w':World):Prop :=
 e=.returned (.tuple #[.agg #[.string (bs r.1),.int .i64 r.2.1,.int .i64 r.2.2.1,.bool r.2.2.2],.bool f])∧Below w.heap.size w w'
def tPre (r:List UInt8 × Int) (f:Bool) (w:World) (e:Ending) (w':World):Prop :=
 e=.returned (.tuple #[.agg #[.string (bs r.1),.int .i64 r.2],.bool f])∧Below w.heap.size w w'
def zRow:Row:=([],0,0,false)
def fstR (p:Row→Bool):Row × Bool:=match binRow.find? p with | some r=>(r,true) | none=>(zRow,false)
def fstP (p:List UInt8 × Int→Bool):(List UInt8 × Int) × Bool:=match preRow.find? p with | some r=>(r,true) | none=>(([],0),false)
structure Duo (w:World) (g:Nat) (x0 x1:Value):Prop where
 lt:g<w.heap.size
 c0:w.cell? ⟨g,0,none⟩=some x0
 c1:w.cell? ⟨g,1,none⟩=some x1
 f0:w.frozen? ⟨g,0,none⟩=false
 f1:w.frozen? ⟨g,1,none⟩=false
theorem Duo.new (w:World) (x0 x1:Value) (t:TypeId):Duo (w.alloc (.cells #[x0,x1] t)) w.heap.size x0 x1 :=
 ⟨by simp,(alloc_cells w #[x0,x1] t 0 x0 rfl).1,(alloc_cells w #[x0,x1] t 1 x1 rfl).1,(alloc_cells w #[x0,x1] t 0 x0 rfl).2,(alloc_cells w #[x0,x1] t 1 x1 rfl).2⟩
theorem Duo.stay {W0 w:World} {g:Nat} {x0 x1:Value} (h:Duo W0 g x0 x1) (hb:Below W0.heap.size W0 w):Duo w g x0 x1 :=
 ⟨Nat.lt_of_lt_of_le h.lt hb.size,(hb.cell (p:=⟨g,0,none⟩) h.lt).trans h.c0,(hb.cell (p:=⟨g,1,none⟩) h.lt).trans h.c1,(hb.frozen (p:=⟨g,0,none⟩) h.lt).trans h.f0,(hb.frozen (p:=⟨g,1,none⟩) h.lt).trans h.f1⟩
theorem Duo.alloc {w:World} {g:Nat} {x0 x1:Value} (h:Duo w g x0 x1) (o:Obj):Duo (w.alloc o) g x0 x1:=h.stay ((Below.refl _ _).alloc (Nat.le_refl _) _)
theorem Duo.put {w:World} {g:Nat} {x0 x1:Value} (h:Duo w g x0 x1) (y0 y1:Value):Duo ((w.setCell ⟨g,0,none⟩ y0).setCell ⟨g,1,none⟩ y1) g y0 y1 :=
 ⟨by simp only [setCell_size];exact h.lt,by rw [other _ _ (by decide)];exact cell_set h.c0,cell_set (by rw [other _ _ (by decide)];exact h.c1),by simp only [World.frozen?_setCell];exact h.f0,by simp only [World.frozen?_setCell];exact h.f1⟩
theorem Duo.grown {W W':World} {g:Nat} {x0 x1:Value} {row:Option Nat} (h:Duo W g x0 x1) (hg:W.grownBy W' row) (hr:some g≠row):Duo W' g x0 x1:=by
 have hb:=hg.block g h.lt hr;exact⟨Nat.lt_of_lt_of_le h.lt hg.size,(World.cell?_of_block (w:=W) hb).trans h.c0,(World.cell?_of_block (w:=W) hb).trans h.c1,(World.frozen?_of_block (w:=W) hb).trans h.f0,(World.frozen?_of_block (w:=W) hb).trans h.f1⟩
theorem below_duo {W0 w:World} {g:Nat} (h:Below W0.heap.size W0 w) (hg:W0.heap.size≤g) (y0 y1:Value):Below W0.heap.size W0 ((w.setCell ⟨g,0,none⟩ y0).setCell ⟨g,1,none⟩ y1):=(h.setCell hg _).setCell hg _
theorem find_drop {α:Type} {p:α→Bool} {l:List α} {k:Nat} {x:α} (hx:l[k]? = some x) (h:l.find? p=(l.drop k).find? p):(p x=true→l.find? p=some x)∧(p x=false→l.find? p=(l.drop (k+1)).find? p):=by
 obtain⟨hk,e⟩:=List.getElem?_eq_some_iff.1 hx;rw [List.drop_eq_getElem_cons hk,List.find?_cons,e] at h;exact⟨fun g=>by rw [g] at h;exact h,fun g=>by rw [g] at h;exact h⟩
theorem binFor_any (x:Int) (w:World) (ht:BinAt w) :
  Calls Tryz.prog 175 #[.int .i64 x] w (tBin (fstR (fun r=>decide (r.2.2.1=x)&&!r.2.2.2)).1 (fstR (fun r=>decide (r.2.2.1=x)&&!r.2.2.2)).2 w):=by
 obtain⟨b,off,c,hg,hc,hb,hrow⟩:=ht;have HR:=Lh hrow;clear hrow;obtain⟨p,hp⟩:∃ p:Row→Bool,(fun r=>decide (r.2.2.1=x)&&!r.2.2.2)=p:=⟨_,rfl⟩;have HP:=Lh hp;rw [hp];clear hp;have F0:=Lh (Four.new w (.string ⟨#[]⟩) (.int .i64 0) (.int .i64 0) (.bool false) 180);have HB0:Hid (Below w.heap.size w (w.alloc (.cells #[.string ⟨#[]⟩,.int .i64 0,.int .i64 0,.bool false] 180))):=Lh ((Below.refl _ _).alloc (Nat.le_refl _) _);have hg1:(w.alloc (.cells #[.string ⟨#[]⟩,.int .i64 0,.int .i64 0,.bool false] 180)).cell? ⟨2,0,none⟩=some (.slice (some ⟨b,off,none⟩) 17 c):=(HB0.out.cell (p:=⟨2,0,none⟩) (cell_lt hg)).trans hg;clear hg
 go_enter Tryz.func175,Tryz.ntmps175
 go_wp2;clear hg1;go_loopw [8] (fun i wr=>∃ k:Nat,k≤17∧i=.int .i64 k∧Hid (binRow.find? p=(binRow.drop k).find? p)∧Hid (Below w.heap.size w wr)∧Hid (Four wr w.heap.size (.string ⟨#[]⟩) (.int .i64 0) (.int .i64 0) (.bool false))) (fun i _=>17 - (intOf i).toNat)
 case atStart=>exact⟨0,Nat.zero_le _,rfl,Lh rfl,HB0,F0⟩
 case round =>
  obtain⟨k,hk,rfl,FD,BW,FF⟩:=hrel;by_cases hlt:k<17
  ·obtain⟨y,hy⟩:∃ y,binRow[k]? = some y:=⟨_,List.getElem?_eq_getElem (by exact hlt)⟩;obtain⟨q0,q1,q2,q3⟩:=HR.out k y hy;have ca0:wr.cell? ⟨b,off+k*4,none⟩=some (.string (bs y.1)):=(BW.out.cell (p:=⟨b,off+k*4,none⟩) hb).trans q0;have ca1:wr.cell? ⟨b,off+k*4+1,none⟩=some (.int .i64 y.2.1):=(BW.out.cell (p:=⟨b,off+k*4+1,none⟩) hb).trans q1;have ca2:wr.cell? ⟨b,off+k*4+2,none⟩=some (.int .i64 y.2.2.1):=(BW.out.cell (p:=⟨b,off+k*4+2,none⟩) hb).trans q2;have ca3:wr.cell? ⟨b,off+k*4+3,none⟩=some (.bool y.2.2.2):=(BW.out.cell (p:=⟨b,off+k*4+3,none⟩) hb).trans q3;obtain⟨f1,f2⟩:=find_drop hy FD.out;have G1:=Lh f1;have G2:=Lh f2;have hpy:p y=(decide (y.2.2.1=x)&&!y.2.2.2):=(by rw [←HP.out]);have HPY:=Lh hpy;clear q0 q1 q2 q3 f1 f2 hy hpy FD;obtain⟨y0,hy0⟩:∃ y0:ByteArray,bs y.1=y0:=⟨_,rfl⟩;obtain⟨y1,hy1⟩:∃ y1,y.2.1=y1:=⟨_,rfl⟩;obtain⟨y2,hy2⟩:∃ y2,y.2.2.1=y2:=⟨_,rfl⟩;obtain⟨y3,hy3⟩:∃ y3,y.2.2.2=y3:=⟨_,rfl⟩;have HY:Hid (y=(y0.data.toList,y1,y2,y3)):=Lh (by rw [←hy0,←hy1,←hy2,←hy3]);rw [hy0] at ca0;rw [hy1] at ca1;rw [hy2] at ca2;rw [hy3] at ca3;clear hy0 hy1 hy2 hy3;have fA:=FF.out.alloc (.cells #[.string y0,.int .i64 y1,.int .i64 y2,.bool y3] 180);have fB:=Four.new wr (.string y0) (.int .i64 y1) (.int .i64 y2) (.bool y3) 180;have HB1:Hid (Below w.heap.size w (wr.alloc (.cells #[.string y0,.int .i64 y1,.int .i64 y2,.bool y3] 180))):=Lh (BW.out.alloc (BW.out.size) _);have HFA:=Lh fA;have e0:=fB.c0;have e1:=fB.c1;have e2:=fB.c2;have e3:=fB.c3;have d0:=fA.c0;have d1:=fA.c1;have d2:=fA.c2;have d3:=fA.c3;have z0:=fA.f0;have z1:=fA.f1;have z2:=fA.f2;have z3:=fA.f3;clear fA fB;by_cases e:y2=x
   ·have t1:(y2 == x)=true:=(by rw [e];simp);cases y3
    ·have EE:Hid (fstR p=((y0.data.toList,y1,y2,false),true)):=Lh (by
      unfold fstR;rw [G1.out (by rw [HPY.out,HY.out];exact by rw [decide_eq_true e];rfl),HY.out])
     have hP:=HFA.out.put (.string y0) (.int .i64 y1) (.int .i64 y2) (.bool false);have r0:=hP.c0;have r1:=hP.c1;have r2:=hP.c2;have r3:=hP.c3;have HBP:=Lh (below_put HB1.out (Nat.le_refl _) (.string y0) (.int .i64 y1) (.int .i64 y2) (.bool false));clear e hP;go_wp2;refine bodyPost_ret (v:=.tuple #[.agg #[.string y0,.int .i64 y1,.int .i64 y2,.bool false],.bool true]) (by simp [results,Tryz.results175,go_sem,r0,r1,r2,r3]) rfl ?_;rw [EE.out];exact⟨rfl,HBP.out⟩
    ·have FD2:Hid (binRow.find? p=(binRow.drop (k+1)).find? p):=Lh (G2.out (by rw [HPY.out,HY.out];exact by rw [decide_eq_true e];rfl));clear e;go_wp2;go_roundw
     case rel=>exact⟨k+1,by omega,by go_num,FD2,HB1,HFA⟩
     case measure=>simp [intOf];omega
   ·have t1:(y2 == x)=false:=(by rw [beq_eq_false_iff_ne];exact e);have FD2:Hid (binRow.find? p=(binRow.drop (k+1)).find? p):=Lh (G2.out (by rw [HPY.out,HY.out];exact by rw [decide_eq_false e];rfl));clear e;go_wp2;go_roundw
    case rel=>exact⟨k+1,by omega,by go_num,FD2,HB1,HFA⟩
    case measure=>simp [intOf];omega
  ·have EE:Hid (fstR p=(zRow,false)):=Lh (by
    unfold fstR;rw [FD.out,List.drop_of_length_le (by show 17≤k;omega)];rfl)
   have fA:=FF.out;have d0:=fA.c0;have d1:=fA.c1;have d2:=fA.c2;have d3:=fA.c3;have z0:=fA.f0;have z1:=fA.f1;have z2:=fA.f2;have z3:=fA.f3;have hP:=fA.put (.string ⟨#[]⟩) (.int .i64 0) (.int .i64 0) (.bool false);have r0:=hP.c0;have r1:=hP.c1;have r2:=hP.c2;have r3:=hP.c3;have HBP:=Lh (below_put BW.out (Nat.le_refl _) (.string ⟨#[]⟩) (.int .i64 0) (.int .i64 0) (.bool false));clear fA hP;go_wp2;refine bodyPost_ret (v:=.tuple #[.agg #[.string ⟨#[]⟩,.int .i64 0,.int .i64 0,.bool false],.bool false]) (by simp [results,Tryz.results175,go_sem,r0,r1,r2,r3]) rfl ?_;rw [EE.out];exact⟨rfl,HBP.out⟩
theorem preFor_any (x:Int) (w:World) (ht:PreAt w) :
  Calls Tryz.prog 176 #[.int .i64 x] w (tPre (fstP (fun r=>decide (r.2=x))).1 (fstP (fun r=>decide (r.2=x))).2 w):=by
 obtain⟨b,off,c,hg,hc,hb,hrow⟩:=ht;have HR:=Lh hrow;clear hrow;obtain⟨p,hp⟩:∃ p:List UInt8 × Int→Bool,(fun r=>decide (r.2=x))=p:=⟨_,rfl⟩;have HP:=Lh hp;rw [hp];clear hp;have F0:=Lh (Duo.new w (.string ⟨#[]⟩) (.int .i64 0) 184);have HB0:Hid (Below w.heap.size w (w.alloc (.cells #[.string ⟨#[]⟩,.int .i64 0] 184))):=Lh ((Below.refl _ _).alloc (Nat.le_refl _) _);have hg1:(w.alloc (.cells #[.string ⟨#[]⟩,.int .i64 0] 184)).cell? ⟨3,0,none⟩=some (.slice (some ⟨b,off,none⟩) 3 c):=(HB0.out.cell (p:=⟨3,0,none⟩) (cell_lt hg)).trans hg;clear hg
 go_enter Tryz.func176,Tryz.ntmps176
 go_wp2;clear hg1;go_loopw [8] (fun i wr=>∃ k:Nat,k≤3∧i=.int .i64 k∧Hid (preRow.find? p=(preRow.drop k).find? p)∧Hid (Below w.heap.size w wr)∧Hid (Duo wr w.heap.size (.string ⟨#[]⟩) (.int .i64 0))) (fun i _=>3 - (intOf i).toNat)
 case atStart=>exact⟨0,Nat.zero_le _,rfl,Lh rfl,HB0,F0⟩
 case round =>
  obtain⟨k,hk,rfl,FD,BW,FF⟩:=hrel;by_cases hlt:k<3
  ·obtain⟨y,hy⟩:∃ y,preRow[k]? = some y:=⟨_,List.getElem?_eq_getElem (by exact hlt)⟩;obtain⟨q0,q1⟩:=HR.out k y hy;have ca0:wr.cell? ⟨b,off+k*2,none⟩=some (.string (bs y.1)):=(BW.out.cell (p:=⟨b,off+k*2,none⟩) hb).trans q0;have ca1:wr.cell? ⟨b,off+k*2+1,none⟩=some (.int .i64 y.2):=(BW.out.cell (p:=⟨b,off+k*2+1,none⟩) hb).trans q1;obtain⟨f1,f2⟩:=find_drop hy FD.out;have G1:=Lh f1;have G2:=Lh f2;have hpy:p y=(decide (y.2=x)):=(by rw [←HP.out]);have HPY:=Lh hpy;clear q0 q1 f1 f2 hy hpy FD;obtain⟨y0,hy0⟩:∃ y0:ByteArray,bs y.1=y0:=⟨_,rfl⟩;obtain⟨y1,hy1⟩:∃ y1,y.2=y1:=⟨_,rfl⟩;have HY:Hid (y=(y0.data.toList,y1)):=Lh (by rw [←hy0,←hy1]);rw [hy0] at ca0;rw [hy1] at ca1;clear hy0 hy1;have fA:=FF.out.alloc (.cells #[.string y0,.int .i64 y1] 184);have fB:=Duo.new wr (.string y0) (.int .i64 y1) 184;have HB1:Hid (Below w.heap.size w (wr.alloc (.cells #[.string y0,.int .i64 y1] 184))):=Lh (BW.out.alloc (BW.out.size) _);have HFA:=Lh fA;have e0:=fB.c0;have e1:=fB.c1;have d0:=fA.c0;have d1:=fA.c1;have z0:=fA.f0;have z1:=fA.f1;clear fA fB;by_cases e:y1=x
   ·have t1:(y1 == x)=true:=(by rw [e];simp);have EE:Hid (fstP p=((y0.data.toList,y1),true)):=Lh (by
     unfold fstP;rw [G1.out (by rw [HPY.out,HY.out];exact decide_eq_true e),HY.out])
    have hP:=HFA.out.put (.string y0) (.int .i64 y1);have r0:=hP.c0;have r1:=hP.c1;have HBP:=Lh (below_duo HB1.out (Nat.le_refl _) (.string y0) (.int .i64 y1));clear e hP;go_wp2;refine bodyPost_ret (v:=.tuple #[.agg #[.string y0,.int .i64 y1],.bool true]) (by simp [results,Tryz.results176,go_sem,r0,r1]) rfl ?_;rw [EE.out];exact⟨rfl,HBP.out⟩
   ·have t1:(y1 == x)=false:=(by rw [beq_eq_false_iff_ne];exact e);have FD2:Hid (preRow.find? p=(preRow.drop (k+1)).find? p):=Lh (G2.out (by rw [HPY.out,HY.out];exact decide_eq_false e));clear e;go_wp2;go_roundw
    case rel=>exact⟨k+1,by omega,by go_num,FD2,HB1,HFA⟩
    case measure=>simp [intOf];omega
  ·have EE:Hid (fstP p=(([],0),false)):=Lh (by
    unfold fstP;rw [FD.out,List.drop_of_length_le (by show 3≤k;omega)];rfl)
   have fA:=FF.out;have d0:=fA.c0;have d1:=fA.c1;have z0:=fA.f0;have z1:=fA.f1;have hP:=fA.put (.string ⟨#[]⟩) (.int .i64 0);have r0:=hP.c0;have r1:=hP.c1;have HBP:=Lh (below_duo BW.out (Nat.le_refl _) (.string ⟨#[]⟩) (.int .i64 0));clear fA hP;go_wp2;refine bodyPost_ret (v:=.tuple #[.agg #[.string ⟨#[]⟩,.int .i64 0],.bool false]) (by simp [results,Tryz.results176,go_sem,r0,r1]) rfl ?_;rw [EE.out];exact⟨rfl,HBP.out⟩
theorem fstR_op (o:Int):fstR (fun r=>decide (r.2.2.1=o)&&!r.2.2.2)=if bLev o≠0 then ((bMark o,bLev o,o,false),true) else (zRow,false):=by
 by_cases h:7≤o∧o≤21
 ·have:o=7∨o=8∨o=9∨o=10∨o=11∨o=12∨o=13∨o=14∨o=15∨o=16∨o=17∨o=18∨o=19∨o=20∨o=21:=(by omega);rcases this with rfl | rfl | rfl | rfl | rfl | rfl | rfl | rfl | rfl | rfl | rfl | rfl | rfl | rfl | rfl<;>rfl
 ·have e:bLev o=0:=by
   unfold bLev;rw [if_neg (by omega),if_neg (by omega),if_neg (by omega),if_neg (by omega),if_neg (by omega),if_neg (by omega),if_neg (by omega),if_neg (by omega),if_neg (by omega),if_neg (by omega),if_neg (by omega),if_neg (by omega),if_neg (by omega),if_neg (by omega),if_neg (by omega)]
  rw [e,if_neg (by decide)];have n:binRow.find? (fun r=>decide (r.2.2.1=o)&&!r.2.2.2)=none:=by
   rw [List.find?_eq_none];intro y hy;simp only [binRow,List.mem_cons,List.not_mem_nil,or_false] at hy;rw [Bool.and_eq_true,decide_eq_true_eq];rcases hy with rfl | rfl | rfl | rfl | rfl | rfl | rfl | rfl | rfl | rfl | rfl | rfl | rfl | rfl | rfl | rfl | rfl<;>(rintro ⟨g,_⟩;simp only at g;omega)
  unfold fstR;rw [n]
theorem fstP_op (o:Int):fstP (fun r=>decide (r.2=o))=if o=4∨o=5∨o=6 then ((pMark o,o),true) else (([],0),false):=by
 by_cases h:o=4∨o=5∨o=6
 ·rcases h with rfl | rfl | rfl<;>rfl
 ·rw [if_neg h];have n:preRow.find? (fun r=>decide (r.2=o))=none:=by
   rw [List.find?_eq_none];intro y hy;simp only [preRow,List.mem_cons,List.not_mem_nil,or_false] at hy;rw [decide_eq_true_eq];rcases hy with rfl | rfl | rfl<;>(intro g;simp only at g;omega)
  unfold fstP;rw [n]
theorem gPow10 : Tryz.prog.globalNamed "internal/strconv.uint64pow10" = some 1 := by kernel_rfl
theorem TabE.later {w w':World} (h:TabE w) (hb:Below w.heap.size w w'):TabE w' :=
 ⟨h.base.later hb,var_later gPow10 h.pow hb,h.bin.later hb,h.pre.later hb⟩
def tBin0 (w:World) (e:Ending) (w':World):Prop:=e=.returned (.tuple #[.agg #[.string ⟨#[]⟩,.int .i64 0,.int .i64 0,.bool false],.bool false])∧Below w.heap.size w w'
def tPre0 (w:World) (e:Ending) (w':World):Prop:=e=.returned (.tuple #[.agg #[.string ⟨#[]⟩,.int .i64 0],.bool false])∧Below w.heap.size w w'
theorem binFor_no (o:Int) (w:World) (ht:TabE w) (h:bLev o=0):Calls Tryz.prog 175 #[.int .i64 o] w (tBin0 w):=by
 have:=binFor_any o w ht.bin;rw [fstR_op,if_neg (by simpa using h)] at this;exact this
theorem binFor_yes (o:Int) (w:World) (ht:TabE w) (h:bLev o≠0):Calls Tryz.prog 175 #[.int .i64 o] w (tBin (bMark o,bLev o,o,false) true w):=by
 have:=binFor_any o w ht.bin;rw [fstR_op,if_pos h] at this;exact this
theorem preFor_no (o:Int) (w:World) (ht:TabE w) (h:¬ (o=4∨o=5∨o=6)):Calls Tryz.prog 176 #[.int .i64 o] w (tPre0 w):=by
 have:=preFor_any o w ht.pre;rw [fstP_op,if_neg h] at this;exact this
theorem preFor_yes (o:Int) (w:World) (ht:TabE w) (h:o=4∨o=5∨o=6):Calls Tryz.prog 176 #[.int .i64 o] w (tPre (pMark o,o) true w):=by
 have:=preFor_any o w ht.pre;rw [fstP_op,if_pos h] at this;exact this
theorem levels_any (k:Int) (w:World) (h0:0≤k) (h1:k≤100):Calls Tryz.prog 179 #[.int .i64 k] w fun e w'=>e=.returned (.tuple #[.int .i64 (if k=2 then 3 else k),.int .i64 (if k=2 then 2 else k+1)])∧w=w':=by
 by_cases h:k=2
 ·subst h
  go_enter Tryz.func179,Tryz.ntmps179
  go_wp2;go_ret2;exact⟨rfl,rfl⟩
 ·have e1:(k == 2)=false:=(by rw [beq_eq_false_iff_ne];exact h);have E:Hid ((if k=2 then (3:Int) else k)=k∧(if k=2 then (2:Int) else k+1)=k+1):=Lh ⟨if_neg h,if_neg h⟩;rw [E.out.1,E.out.2];clear h E
  go_enter Tryz.func179,Tryz.ntmps179
  go_wp2;go_ret2;exact⟨rfl,rfl⟩
theorem levelOf_any (o:Int) (w:World) (ht:TabE w):Calls Tryz.prog 161 #[.int .i64 o] w fun e w'=>e=.returned (.int .i64 (lvS o))∧Below w.heap.size w w':=by
 by_cases h22:o=22
 ·subst h22
  go_enter Tryz.func161,Tryz.ntmps161
  go_wp2;go_ret;exact⟨rfl,Below.refl _ _⟩
 by_cases h23:o=23
 ·subst h23
  go_enter Tryz.func161,Tryz.ntmps161
  go_wp2;go_ret;exact⟨rfl,Below.refl _ _⟩
 have e22:(o == 22)=false:=(by rw [beq_eq_false_iff_ne];exact h22);have e23:(o == 23)=false:=(by rw [beq_eq_false_iff_ne];exact h23);by_cases hb:bLev o=0
 ·have BC:=Lh (binFor_no o w ht hb);have HB1:Hid (∀ w1,Below w.heap.size w w1→Below w.heap.size w (w1.alloc (.cells #[.string ⟨#[]⟩,.int .i64 0,.int .i64 0,.bool false] 180))):=(Lh fun w1 h=>h.alloc h.size _);by_cases hp:o=4∨o=5∨o=6
  ·have EE:Hid (lvS o=13):=Lh (by unfold lvS;rw [if_neg h22,if_neg h23,if_neg (by simpa using hb),if_pos hp]);have PC:Hid (∀ W,Below w.heap.size w W→Calls Tryz.prog 176 #[.int .i64 o] W (tPre (pMark o,o) true W)):=(Lh fun W hW=>preFor_yes o W (ht.later hW) hp);clear hp h22 h23 hb ht;generalize lvS o=l at *
   generalize bs (pMark o)=m at *
   go_enter Tryz.func161,Tryz.ntmps161
   go_wp2_with (first
    |(go_at_call 175;((with_reducible refine BC.out.mono ?_);rintro e w1 ⟨rfl,hb⟩;have HW1:=Lh (HB1.out _ hb);clear hb))
    |(go_at_call 176;((with_reducible refine (PC.out _ HW1.out).mono ?_);rintro e w2 ⟨rfl,hb⟩;have HW2:=Lh (HW1.out.then_ hb);clear hb)))
   go_ret;rw [EE.out];exact⟨rfl,HW2.out.alloc HW2.out.size _⟩
  ·have EE:Hid (lvS o=14):=Lh (by unfold lvS;rw [if_neg h22,if_neg h23,if_neg (by simpa using hb),if_neg hp]);have PC:Hid (∀ W,Below w.heap.size w W→Calls Tryz.prog 176 #[.int .i64 o] W (tPre0 W)):=(Lh fun W hW=>preFor_no o W (ht.later hW) hp);clear hp h22 h23 hb ht;generalize lvS o=l at *
   go_enter Tryz.func161,Tryz.ntmps161
   go_wp2_with (first
    |(go_at_call 175;((with_reducible refine BC.out.mono ?_);rintro e w1 ⟨rfl,hb⟩;have HW1:=Lh (HB1.out _ hb);clear hb))
    |(go_at_call 176;((with_reducible refine (PC.out _ HW1.out).mono ?_);rintro e w2 ⟨rfl,hb⟩;have HW2:=Lh (HW1.out.then_ hb);clear hb)))
   go_ret;rw [EE.out];exact⟨rfl,HW2.out.alloc HW2.out.size _⟩
 ·have BC:=Lh (binFor_yes o w ht hb);have EE:Hid (lvS o=bLev o):=Lh (by unfold lvS;rw [if_neg h22,if_neg h23,if_pos hb]);clear hb h22 h23 ht;rw [EE.out];clear EE;generalize bLev o=l at *
  generalize bs (bMark o)=m at *
  go_enter Tryz.func161,Tryz.ntmps161
  go_wp2_with (go_at_call 175;((with_reducible refine BC.out.mono ?_);rintro e w1 ⟨rfl,hb⟩;have HW1:=Lh hb;clear hb))
  go_ret;exact⟨rfl,HW1.out.alloc HW1.out.size _⟩
end EtW
namespace ExW
open Go Go.RowKit Go.Shelf LexW LexM ExM
attribute [local go_sem] Oper.semAt_some
theorem roomNone {F:Fence} (hd:F.depth=none) (k:Nat):F.room k:=fun d h=>by rw [hd] at h;cases h
theorem roundFree {F:Fence} (hd:F.depth=none) {m m':Nat} {P:Program} {l:Nat} {f:FuncId} {tmps:Array Value} {assign body:Code} {w:World} {R:Ending→World→Prop}
  (h:RoundIn F m P l f tmps assign body w R):RoundIn F m' P l f tmps assign body w R:=⟨h.1,fun c cs _=>h.2 c cs (roomNone hd _)⟩
theorem yieldFree {F:Fence} (hd:F.depth=none) {m:Nat} (m':Nat) {P:Program} {l:Nat} {args:Array Value} {W:World} {R:Ending→World→Prop} (h:YieldAt F m P l args W R):YieldAt F m' P l args W R:=by
 obtain⟨fn,tmps,assign,body,hy,hR⟩:=h;exact⟨fn,tmps,assign,body,hy,roundFree hd hR⟩
def Came (J Jx:List Nd→World→Prop) (n₀ n₁:Nat) (L:List In) (bef:List Nd) (W:World) (e:Ending) (W':World):Prop :=
 (e=.returned (.bool true)∧(∃ ys:List Nd,ys.map Nd.info=L∧J (bef++ys) W')∧Keep n₀ n₁ W W') ∨
 (e=.returned (.bool false)∧∃ q:List Nd,q.map Nd.info <+: L∧Jx (bef++q) W')
theorem walk_nodes_in (F:Fence) (hd:F.depth=none) (h60:F.fn 131) (hro:F.round=none) (l n₀ n₁ NN yb wb:Nat) (J Jx:List Nd→World→Prop) (hn:n₀≤n₁)
  (hJ:∀ s A B,J s A→A.grownBy B none→J s B) (hyb:n₁≤yb) (hwb:n₁≤wb)
  (hY:∀ m bef (x:Nd) W,J bef W→bef.length<NN→YieldAt F m Tryz.prog l x.enc W fun e W' =>
   (e=.returned (.bool true)∧J (bef++[x]) W'∧Keep n₀ n₁ W W')∨(e=.returned (.bool false)∧Jx (bef++[x]) W')) (e:Ex) :
  ∀ (n lv:Nat) (v:Value) (bef:List Nd) (W:World),ExAt n₀ W v e→J bef W→n₁≤W.heap.size→bef.length+sz e≤NN→lv+sz e≤9000000 →
   Boxed W yb 149 (.func (.yield l) #[] #[])→Boxed W wb 149 (.func (.func 131) #[] #[.pointer (some ⟨yb,0,none⟩),.pointer (some ⟨wb,0,none⟩)]) →
   CallsIn F n Tryz.prog 131 #[.int .i64 lv,v,.pointer (some ⟨yb,0,none⟩),.pointer (some ⟨wb,0,none⟩)] W (Came J Jx n₀ n₁ (pre lv e) bef W):=by
 have hdd:∀ k:Nat,(F.depth.isSome=true→1≤k):=(fun k h=>by rw [hd] at h;cases h);induction e using Ex.ind with
 | h o num s ks ih =>
  intro n lv v bef W hx hJ0 hsz hNN hlv cy cw;obtain⟨p,cap,pl,cl,rfl,hs,ha⟩:=hx.form;simp only [Ex.op,Ex.n,Ex.nm,Ex.args] at hs ha ⊢;have hks:ks.length≤140737488351232:=(by have:=ha.hl;omega);rw [sz_mk] at hNN hlv;rw [pre_mk];obtain⟨K,hK⟩:∃ K,ks.length=K:=⟨_,rfl⟩;have HK:=Lh hK;rw [hK] at hks ⊢;clear hK;obtain⟨x,hxd⟩:∃ x:Nd,x=⟨lv,o,num,s,p,K,cap,by omega,hs,hks⟩:=⟨_,rfl⟩;have hxe:x.enc=#[.int .i64 lv,xv o num s (.slice p K cap)]:=(by rw [hxd]);have hxi:x.info=⟨lv,o,num,s,K⟩:=(by rw [hxd];rfl);have four:=Four.new W (.int .i64 o) (.int .i64 num) (.string s) (.slice p K cap) 51;have hb1:Below W.heap.size W (W.alloc (.cells #[.int .i64 o,.int .i64 num,.string s,.slice p K cap] 51)):=(Below.refl _ _).alloc (Nat.le_refl _) _;have hy1:=hY (n - 1) bef x _ (hJ _ _ _ hJ0 (grown_of_below hb1)) (by omega);rw [hxe] at hy1;obtain⟨fn,tmps,assign,body,hy,hR⟩:=hy1;have by1:=cy.alloc (.cells #[.int .i64 o,.int .i64 num,.string s,.slice p K cap] 51);have bw1:=cw.alloc (.cells #[.int .i64 o,.int .i64 num,.string s,.slice p K cap] 51);have be1:(W.alloc (.cells #[.int .i64 o,.int .i64 num,.string s,.slice p K cap] 51)).heap[W.heap.size]? = some (.cells #[.int .i64 o,.int .i64 num,.string s,.slice p K cap] 51):=heap_alloc_new _ _;have HBE:=Lh be1;have HBY:=Lh by1;have HBW:=Lh bw1;have cy1:=by1.cell;have cw1:=bw1.cell;have HY:=Lh hY;have HIH:=Lh ih;have HXI:=Lh hxi;have HJ:=Lh hJ;have HA:=Lh ha;clear hY ih hxi hJ ha hxd hxe hJ0 be1 by1 bw1;have four0:=four.c0;have four1:=four.c1;have four2:=four.c2;have four3:=four.c3;refine callsIn_of_wp Tryz.func131 rfl h60 ?_ hro;simp only [Tryz.ntmps131,List.size_toArray,List.length_cons,List.length_nil,Nat.reduceAdd,Nat.reduceSub,Array.replicate_succ,Array.replicate_zero,List.push_toArray,List.append_toArray,List.nil_append,List.cons_append]
  gi_wp2
  refine hR.mono ?_;rintro e W2 (⟨rfl,hJ2,hk2⟩ | ⟨rfl,hJx2⟩)
  ·have c3:W2.cell? ⟨W.heap.size,3,none⟩=some (.slice p K cap):=by
    have:=hk2.blk _ _ _ _ HBE.out (.inr ⟨hsz,.inl rfl⟩);simp [World.cell?,this]
   have HCY:=Lh cy;have HCW:=Lh cw;have HKW:Hid (Keep n₀ n₁ W W2):=Lh ((Keep.of_below hb1).trans hk2);have HJ2:=Lh hJ2;clear four four0 four1 four2 four3 cw1 cy1 cw cy hJ2 hk2 hb1
   gi_wp2
   gi_loopw [17] (fun i wr=>∃ (k:Nat) (ys:List Nd),k≤K∧i=.int .i64 k∧Hid (ys.map Nd.info=pres (lv+1) (ks.take k))∧Hid (J (bef++[x]++ys) wr)∧Hid (Keep n₀ n₁ W wr)) (fun i _=>K - (intOf i).toNat)
   case atStart=>exact⟨0,[],Nat.zero_le _,rfl,Lh (by rw [List.take_zero,pres_nil];rfl),Lh (by rw [List.append_nil];exact HJ2.out),HKW⟩
   case round =>
    obtain⟨k,ys,hk,rfl,YS,JW,KW⟩:=hrel;clear c3;by_cases hlt:k<K
    ·obtain⟨b,off,rfl,hbs,hcell⟩:=HA.out.hp (by rw [HK.out];omega);obtain⟨a,hak⟩:∃ a,ks[k]? = some a:=⟨_,List.getElem?_eq_getElem (by rw [HK.out];exact hlt)⟩;obtain⟨q0,q1,q2,q3⟩:=hcell k a hak;have ca0:=KW.out.tree hbs q0;have ca1:=KW.out.tree hbs q1;have ca2:=KW.out.tree hbs q2;have ca3:=KW.out.tree hbs q3;have b1:Boxed wr yb 149 (.func (.yield l) #[] #[]):=KW.out.blk _ _ _ _ HCY.out (.inr ⟨hyb,.inr rfl⟩);have b2:Boxed wr wb 149 (.func (.func 131) #[] #[.pointer (some ⟨yb,0,none⟩),.pointer (some ⟨wb,0,none⟩)]):=KW.out.blk _ _ _ _ HCW.out (.inr ⟨hwb,.inr rfl⟩);have c1:=b1.cell;have c2:=b2.cell;have hwl:=cell_lt c2;have hyl':=cell_lt c1;have HB1:=Lh hbs;have hblt:=cell_lt ca0;obtain⟨pa,hpa⟩:∃ pa,pl k=pa:=⟨_,rfl⟩;obtain⟨ka,hka⟩:∃ ka,a.args.length=ka:=⟨_,rfl⟩;obtain⟨ca,hca⟩:∃ ca,cl k=ca:=⟨_,rfl⟩;have hxa:=(HA.out.hx k a hak).keep KW.out;rw [hpa,hka,hca] at ca3 hxa;have HC:Hid (∀ Wx,Below wr.heap.size wr Wx→CallsIn F (n - 1) Tryz.prog 131 #[.int .i64 ((lv:Int)+1),xv a.op a.n a.nm (.slice pa ka ca),.pointer (some ⟨yb,0,none⟩),.pointer (some ⟨wb,0,none⟩)] Wx (Came J Jx n₀ n₁ (pre (lv+1) a) (bef++[x]++ys) Wx)):=Lh fun Wx hbx=>by
      have hsa:=szs_take hak;have hsb:=szs_take_le (k+1) ks;have hyl:ys.length=szs (ks.take k):=by rw [←pres_len (l:=lv+1) (fun a _=>pre_len a _),←YS.out,List.length_map]
      have q:=HIH.out a (List.mem_of_getElem? hak) (n - 1) (lv+1) _ _ Wx (hxa.under (hbx.mono (by omega))) (HJ.out _ _ _ JW.out (grown_of_below hbx)) (by have:=hbx.size;have:=KW.out.size;omega) (by simp;omega) (by omega)
       ((hbx.block yb hyl').trans b1) ((hbx.block wb hwl).trans b2)
      have e1:((lv+1:Nat):Int)=(lv:Int)+1:=(by omega);rw [e1] at q;exact q
     clear hcell q0 q1 q2 q3 hpa hka hca hxa b1 b2;have hb2:Below wr.heap.size wr (wr.alloc (.cells #[.int .i64 a.op,.int .i64 a.n,.string a.nm,.slice pa ka ca] 51)):=(Below.refl _ _).alloc (Nat.le_refl _) _;have HB2:=Lh hb2;have HTK:=Lh (pres_take (l:=lv+1) hak);have HPR:Hid (pres (lv+1) (ks.take (k+1)) <+: pres (lv+1) ks):=Lh (by
      have:=pres_append (lv+1) (ks.take (k+1)) (ks.drop (k+1));rw [List.take_append_drop] at this;exact⟨_,this.symm⟩)
     clear hb2 hak
     gi_wp2_with ((try refine⟨hdd _,?_⟩);gi_at_call 131;refine (HC.out _ HB2.out).mono ?_;clear HC;rintro e W5 (⟨rfl,hys,hk5⟩ | ⟨rfl,hq⟩))
     ·have H5:=Lh hys;have KW5:Hid (Keep n₀ n₁ W W5):=Lh ((KW.out.trans (Keep.of_below HB2.out)).trans hk5);clear hys hk5;go_roundw
      case rel =>
       obtain⟨zs,hz,hj⟩:=H5.out;exact⟨k+1,ys++zs,by omega,by go_num,Lh (by rw [HTK.out,List.map_append,YS.out,hz]),Lh (by rw [←List.append_assoc];exact hj),KW5⟩
      case measure=>simp [intOf];omega
     ·have H5:=Lh hq;clear hq;go_ret;obtain⟨q,hq1,hq2⟩:=H5.out;refine .inr ⟨rfl,x::(ys++q),?_,by simpa [List.append_assoc] using hq2⟩;rw [List.map_cons,HXI.out,List.map_append,YS.out];refine (List.prefix_cons_inj _ |>.2 (List.IsPrefix.trans ?_ HPR.out));rw [HTK.out];exact (List.prefix_append_right_inj _).2 hq1
    ·have hkK:k=K:=(by omega);have YS2:Hid (ys.map Nd.info=pres (lv+1) ks):=Lh (by rw [YS.out,hkK,←HK.out,List.take_length]);clear hkK
     gi_wp2
     go_ret;exact .inl ⟨rfl,⟨x::ys,by rw [List.map_cons,HXI.out,YS2.out],by simpa [List.append_assoc] using JW.out⟩,KW.out⟩
  ·gi_wp2
   go_ret;exact .inr ⟨rfl,[x],by rw [List.map_cons,HXI.out];exact⟨_,rfl⟩,hJx2⟩
theorem iter_in (F:Fence) (hd:F.depth=none) (n:Nat) (h59:F.fn 130) (h60:F.fn 131) (hro:F.round=none) (l n₀ n₁ eb:Nat) (hn:n₀≤n₁) (e:Ex) (hsz:sz e≤2000000)
  (o num:Int) (s:ByteArray) (a3:Value) (J Jx:List Nd→World→Prop) (hJ:∀ s A B,J s A→A.grownBy B none→J s B)
  (hY:∀ bef (x:Nd) W,J bef W→bef.length<sz e→YieldAt F (n - 1) Tryz.prog l x.enc W fun e W' =>
   (e=.returned (.bool true)∧J (bef++[x]) W'∧Keep n₀ n₁ W W')∨(e=.returned (.bool false)∧Jx (bef++[x]) W'))
  (W:World) (h1:n₁≤W.heap.size) (hb:Four W eb (.int .i64 o) (.int .i64 num) (.string s) a3) (hx:ExAt n₀ W (xv o num s a3) e) (h0:J [] W) :
  CallsIn F n Tryz.prog 130 #[.func (.yield l) #[] #[],.pointer (some ⟨eb,0,none⟩)] W fun x W'=>(∃ v,x=.returned v) ∧
   ((∃ ys:List Nd,ys.map Nd.info=pre 1 e∧J ys W')∨(∃ q:List Nd,q.map Nd.info <+: pre 1 e∧Jx q W')):=by
 have hdd:∀ k:Nat,(F.depth.isSome=true→1≤k):=(fun k h=>by rw [hd] at h;cases h);have HW:Hid (∀ W2,Below W.heap.size W W2→Boxed W2 W.heap.size 149 (.func (.yield l) #[] #[])→Boxed W2 (W.heap.size+1) 149 (.func (.func 131) #[] #[.pointer (some ⟨W.heap.size,0,none⟩),.pointer (some ⟨W.heap.size+1,0,none⟩)]) →
   CallsIn F (n - 1) Tryz.prog 131 #[.int .i64 1,xv o num s a3,.pointer (some ⟨W.heap.size,0,none⟩),.pointer (some ⟨W.heap.size+1,0,none⟩)] W2 (Came J Jx n₀ n₁ (pre 1 e) [] W2)):=Lh fun W2 hb2 c1 c2 =>
  walk_nodes_in F hd h60 hro l n₀ n₁ (sz e) W.heap.size (W.heap.size+1) J Jx hn hJ (by omega) (by omega) (fun m bef x W hj hl=>yieldFree hd m (hY bef x W hj hl)) e (n - 1) 1 _ [] W2 (hx.under (hb2.mono (by omega))) (hJ _ _ _ h0 (grown_of_below hb2)) (by have:=hb2.size;omega) (by simp) (by omega) c1 c2
 have a0:=hb.alloc (.cells #[.func (.yield l) #[] #[]] 149);have a1:=a0.alloc (.cells #[.func (.func 131) #[] #[.pointer (some ⟨W.heap.size,0,none⟩),.pointer (some ⟨W.heap.size+1,0,none⟩)]] 149);have d0:=a1.c0;have d1:=a1.c1;have d2:=a1.c2;have d3:=a1.c3;clear a0 a1 hb hY hJ hx h0;refine callsIn_of_wp Tryz.func130 rfl h59 ?_ hro;simp only [Tryz.ntmps130,List.size_toArray,List.length_cons,List.length_nil,Nat.reduceAdd,Nat.reduceSub,Array.replicate_succ,Array.replicate_zero,List.push_toArray,List.append_toArray,List.nil_append,List.cons_append];have BX1:=Lh ((Boxed.new W 149 (.func (.yield l) #[] #[])).alloc (.cells #[.func (.func 131) #[] #[.pointer (some ⟨W.heap.size,0,none⟩),.pointer (some ⟨W.heap.size+1,0,none⟩)]] 149));have bx2:=Boxed.new (W.alloc (.cells #[.func (.yield l) #[] #[]] 149)) 149 (.func (.func 131) #[] #[.pointer (some ⟨W.heap.size,0,none⟩),.pointer (some ⟨W.heap.size+1,0,none⟩)]);rw [World.size_alloc] at bx2;have BX2:=Lh bx2;clear bx2;have HB1:Hid (Below W.heap.size W ((W.alloc (.cells #[.func (.yield l) #[] #[]] 149)).alloc (.cells #[.func (.func 131) #[] #[.pointer (some ⟨W.heap.size,0,none⟩),.pointer (some ⟨W.heap.size+1,0,none⟩)]] 149))):=Lh (((Below.refl _ _).alloc (Nat.le_refl _) _).alloc (by simp) _)
 gi_wp2_with ((try refine⟨hdd _,?_⟩);gi_at_call 131;refine (HW.out _ HB1.out BX1.out BX2.out).mono ?_;clear HW;rintro e W5 (⟨rfl,hys,_⟩ | ⟨rfl,hq⟩))
 ·have H5:=Lh hys;clear hys
  go_end0
  obtain⟨ys,h1,h2⟩:=H5.out;exact⟨⟨_,rfl⟩,.inl ⟨ys,h1,by simpa using h2⟩⟩
 ·have H5:=Lh hq;clear hq
  go_end0
  obtain⟨q,h1,h2⟩:=H5.out;exact⟨⟨_,rfl⟩,.inr ⟨q,h1,by simpa using h2⟩⟩
theorem nodes_in (F:Fence) (n:Nat) (h40:F.fn 113) (hro:F.round=none) (o num:Int) (s:ByteArray) (a3:Value) (w:World) :
  CallsIn F n Tryz.prog 113 #[xv o num s a3] w fun e w'=>e=.returned (.func (.func 130) #[] #[.pointer (some ⟨w.heap.size,0,none⟩)])∧w'=w.alloc (.cells #[.int .i64 o,.int .i64 num,.string s,a3] 51):=by
 refine callsIn_of_wp Tryz.func113 rfl h40 ?_ hro;simp only [Tryz.ntmps113,List.size_toArray,List.length_cons,List.length_nil,Nat.reduceAdd,Nat.reduceSub,Array.replicate_succ,Array.replicate_zero,List.push_toArray,List.append_toArray,List.nil_append,List.cons_append]
 gi_wp2
 go_ret;exact⟨rfl,rfl⟩
theorem nodes_stops (F:Fence) (hd:F.depth=none) (n:Nat) (h59:F.fn 130) (h60:F.fn 131) (hro:F.round=none) (n₀ n₁ eb:Nat) (hn:n₀≤n₁) (e:Ex) (hsz:sz e≤2000000)
  (o num:Int) (s:ByteArray) (a3:Value) (w:World) (h1:n₁≤w.heap.size) (hb:Four w eb (.int .i64 o) (.int .i64 num) (.string s) a3) (hx:ExAt n₀ w (xv o num s a3) e) :
  SeqStopsK F n Tryz.prog 130 #[.pointer (some ⟨eb,0,none⟩)] (fun x:Nd=>#[Value.int .i64 x.lv,xv x.op x.n x.nm (.slice x.p x.k x.cap)]) (Keep n₀ n₁) (fun ys=>ys.map Nd.info=pre 1 e) (fun q=>q.map Nd.info <+: pre 1 e) (sz e) w:=fun l J Jx W hW hJ _ hY h0 =>
 iter_in F hd n h59 h60 hro l n₀ n₁ eb hn e hsz o num s a3 J Jx (fun s A B hs hg=>hJ s A B none hs hg (fun r e=>by cases e)) hY W (Nat.le_trans h1 hW.size) (hb.stay hW) (hx.under (hW.mono (by omega))) h0
end ExW
end Go.Proofs.YtihnejaopejbgaaGreatDoor
