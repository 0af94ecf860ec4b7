/-
  Laws that the card uses; no conditions beside those that each states (ExOver).
-/
import Derived.Deep.AppendLies
import Derived.Deep.RegionLaw
import Derived.Test.YtpejflgdehioaaaGreatDoorU04
import Derived.Test.YtpejflgdehioaaaGreatDoorU14
set_option maxRecDepth 100000
set_option maxHeartbeats 16000000
namespace Go.Proofs.YtpejflgdehioaaaGreatDoor
namespace ExW
open Go Go.RowKit NumM LexW LexM ExM
theorem strs_own {W:World} {B:Nat} {v:Value} {l:List ByteArray} (h:W.ownsRow B 9 1 v l.length (l.map Value.string)):StrsA W v l:=by
 obtain⟨_,⟨hv,hn⟩ | ⟨g,cap,cur,hv,hB,hg,hle,_,_,htake⟩⟩:=h
 ·exact⟨none,0,by rw [hv,hn],by omega,fun x=>by omega⟩
 ·refine⟨some ⟨g,0,none⟩,cap,hv,hle,fun _=>⟨g,0,rfl,fun i s hi=>?_⟩⟩;rw [cell_of_row W g _ cur 9 (0,0) hg,Nat.zero_add];have hl:=(List.getElem?_eq_some_iff.1 hi).1;have:(cur.toList.take (l.length*1))[i]? = some (.string s):=(by rw [htake,List.getElem?_map,hi];rfl);rw [List.getElem?_take,if_pos (by omega)] at this
  simpa using this
end ExW
namespace ExW
open Go Go.RowKit NumM LexW LexM ExM
def Five (W:World) (g:Nat) (x0 x1 x2 x3 x4:Value):Prop:=W.heap[g]? = some (.cells #[x0,x1,x2,x3,x4] 98)
theorem grownBy_set (W:World) (b o:Nat) (v:Value):W.grownBy (W.setCell ⟨b,o,none⟩ v) (some b) :=
 ⟨rfl,rfl,rfl,by rw [setCell_size];exact Nat.le_refl _,fun k _ hb=>heap_setCell_other _ _ _ _ (fun e=>hb (by rw [e]))⟩
section
variable {W:World} {g:Nat} {x0 x1 x2 x3 x4:Value}
theorem Five.lt (h:Five W g x0 x1 x2 x3 x4):g<W.heap.size:=(Array.getElem?_eq_some_iff.1 h).1
theorem Five.cell (h:Five W g x0 x1 x2 x3 x4) (j:Nat):W.cell? ⟨g,j,none⟩=(#[x0,x1,x2,x3,x4]:Array Value)[j]?:=cell_of_row W g j _ _ (0,0) h
theorem Five.c0 (h:Five W g x0 x1 x2 x3 x4):W.cell? ⟨g,0,none⟩=some x0:=h.cell 0
theorem Five.c1 (h:Five W g x0 x1 x2 x3 x4):W.cell? ⟨g,1,none⟩=some x1:=h.cell 1
theorem Five.c2 (h:Five W g x0 x1 x2 x3 x4):W.cell? ⟨g,2,none⟩=some x2:=h.cell 2
theorem Five.c3 (h:Five W g x0 x1 x2 x3 x4):W.cell? ⟨g,3,none⟩=some x3:=h.cell 3
theorem Five.c4 (h:Five W g x0 x1 x2 x3 x4):W.cell? ⟨g,4,none⟩=some x4:=h.cell 4
theorem Five.frz (h:Five W g x0 x1 x2 x3 x4) (j:Nat):W.frozen? ⟨g,j,none⟩=false:=by simp [World.frozen?,show W.heap[g]? = _ from h]
theorem Five.new (W:World) (x0 x1 x2 x3 x4:Value):Five (W.alloc (.cells #[x0,x1,x2,x3,x4] 98)) W.heap.size x0 x1 x2 x3 x4:=heap_alloc_new _ _
theorem Five.stay {W':World} (h:Five W g x0 x1 x2 x3 x4) (hb:Below W.heap.size W W'):Five W' g x0 x1 x2 x3 x4:=(hb.block g h.lt).trans h
theorem Five.grown {W':World} {row:Option Nat} (h:Five W g x0 x1 x2 x3 x4) (hg:W.grownBy W' row) (hr:some g≠row):Five W' g x0 x1 x2 x3 x4:=(hg.block g h.lt hr).trans h
theorem Five.set0 (h:Five W g x0 x1 x2 x3 x4) (u:Value):Five (W.setCell ⟨g,0,none⟩ u) g u x1 x2 x3 x4:=by unfold Five;rw [heap_setCell_same W g 0 _ _ u h];rfl
theorem Five.set1 (h:Five W g x0 x1 x2 x3 x4) (u:Value):Five (W.setCell ⟨g,1,none⟩ u) g x0 u x2 x3 x4:=by unfold Five;rw [heap_setCell_same W g 1 _ _ u h];rfl
theorem Five.set2 (h:Five W g x0 x1 x2 x3 x4) (u:Value):Five (W.setCell ⟨g,2,none⟩ u) g x0 x1 u x3 x4:=by unfold Five;rw [heap_setCell_same W g 2 _ _ u h];rfl
theorem Five.set3 (h:Five W g x0 x1 x2 x3 x4) (u:Value):Five (W.setCell ⟨g,3,none⟩ u) g x0 x1 x2 u x4:=by unfold Five;rw [heap_setCell_same W g 3 _ _ u h];rfl
theorem Five.set4 (h:Five W g x0 x1 x2 x3 x4) (u:Value):Five (W.setCell ⟨g,4,none⟩ u) g x0 x1 x2 x3 u:=by unfold Five;rw [heap_setCell_same W g 4 _ _ u h];rfl
end
abbrev Nms (lo:Nat) (W:World) (v:Value) (l:List ByteArray):Prop:=W.ownsRow lo 9 1 v l.length (l.map Value.string)
theorem Nms.blk {lo:Nat} {W:World} {v:Value} {l:List ByteArray} (h:Nms lo W v l) {b:Nat} (hb:v.ownBlock=some b):lo≤b∧b<W.heap.size∧∃ cs,W.heap[b]? = some (.cells cs 9):=by
 rcases h.2 with ⟨rfl,_⟩ | ⟨g',cap',cur,rfl,hlo,hgb,_⟩
 ·simp [Value.ownBlock] at hb
 ·obtain rfl:g'=b:=(by simpa [Value.ownBlock] using hb);exact⟨hlo,(Array.getElem?_eq_some_iff.1 hgb).1,cur,hgb⟩
theorem Nms.grown {lo:Nat} {W W':World} {v:Value} {l:List ByteArray} {row:Option Nat} (h:Nms lo W v l) (hg:W.grownBy W' row) (hr:∀ b,v.ownBlock=some b→row≠some b):Nms lo W' v l :=
 World.ownsRow.kept h hg (by
  cases hv:v.ownBlock with
  | none=>exact .inl rfl
  | some b=>exact .inr (fun e=>hr b hv e.symm))
theorem Nms.later {lo:Nat} {W W':World} {v:Value} {l:List ByteArray} (h:Nms lo W v l) (hb:Below W.heap.size W W'):Nms lo W' v l:=h.grown (grown_of_below hb) (fun _ _ e=>by cases e)
def Seen (g:Nat) (k m f:Int) (l1 l2:List ByteArray) (W:World):Prop :=
 ∃ v1 v2,Five W g (.int .i64 k) (.int .i64 m) (.int .i64 f) v1 v2∧Nms (g+1) W v1 l1∧Nms (g+1) W v2 l2∧∀ b,v1.ownBlock=some b→v2.ownBlock≠some b
theorem Seen.later {g:Nat} {k m f:Int} {l1 l2:List ByteArray} {W W':World} (h:Seen g k m f l1 l2 W) (hb:Below W.heap.size W W'):Seen g k m f l1 l2 W':=by
 obtain⟨v1,v2,h1,h2,h3,h4⟩:=h;have hg:=grown_of_below hb;exact⟨v1,v2,h1.stay hb,h2.grown hg (fun _ _ e=>by cases e),h3.grown hg (fun _ _ e=>by cases e),h4⟩
theorem nms_not {g:Nat} {W:World} {v:Value} {l:List ByteArray} (h:Nms (g+1) W v l):∀ b,v.ownBlock=some b→some g≠some b:=fun b hb e=>by
 have:=(h.blk hb).1;cases e;omega
theorem Seen.set0 {g:Nat} {k m f:Int} {l1 l2:List ByteArray} {W:World} (h:Seen g k m f l1 l2 W) (u:Int):Seen g u m f l1 l2 (W.setCell ⟨g,0,none⟩ (.int .i64 u)):=by
 obtain⟨v1,v2,h1,h2,h3,h4⟩:=h;exact⟨v1,v2,h1.set0 _,h2.grown (grownBy_set _ _ _ _) (nms_not h2),h3.grown (grownBy_set _ _ _ _) (nms_not h3),h4⟩
theorem Seen.set1 {g:Nat} {k m f:Int} {l1 l2:List ByteArray} {W:World} (h:Seen g k m f l1 l2 W) (u:Int):Seen g k u f l1 l2 (W.setCell ⟨g,1,none⟩ (.int .i64 u)):=by
 obtain⟨v1,v2,h1,h2,h3,h4⟩:=h;exact⟨v1,v2,h1.set1 _,h2.grown (grownBy_set _ _ _ _) (nms_not h2),h3.grown (grownBy_set _ _ _ _) (nms_not h3),h4⟩
theorem Seen.set2 {g:Nat} {k m f:Int} {l1 l2:List ByteArray} {W:World} (h:Seen g k m f l1 l2 W) (u:Int):Seen g k m u l1 l2 (W.setCell ⟨g,2,none⟩ (.int .i64 u)):=by
 obtain⟨v1,v2,h1,h2,h3,h4⟩:=h;exact⟨v1,v2,h1.set2 _,h2.grown (grownBy_set _ _ _ _) (nms_not h2),h3.grown (grownBy_set _ _ _ _) (nms_not h3),h4⟩
def Box4 (W:World) (b:Nat) (o n:Int) (s:ByteArray) (x:Value):Prop:=W.heap[b]? = some (.cells #[.int .i64 o,.int .i64 n,.string s,x] 43)
theorem Box4.lt {W:World} {b:Nat} {o n:Int} {s:ByteArray} {x:Value} (h:Box4 W b o n s x):b<W.heap.size:=(Array.getElem?_eq_some_iff.1 h).1
theorem Box4.cell {W:World} {b:Nat} {o n:Int} {s:ByteArray} {x:Value} (h:Box4 W b o n s x) (j:Nat):W.cell? ⟨b,j,none⟩=(#[.int .i64 o,.int .i64 n,.string s,x]:Array Value)[j]?:=cell_of_row W b j _ _ (0,0) h
theorem Box4.c0 {W:World} {b:Nat} {o n:Int} {s:ByteArray} {x:Value} (h:Box4 W b o n s x):W.cell? ⟨b,0,none⟩=some (.int .i64 o):=h.cell 0
theorem Box4.c1 {W:World} {b:Nat} {o n:Int} {s:ByteArray} {x:Value} (h:Box4 W b o n s x):W.cell? ⟨b,1,none⟩=some (.int .i64 n):=h.cell 1
theorem Box4.c2 {W:World} {b:Nat} {o n:Int} {s:ByteArray} {x:Value} (h:Box4 W b o n s x):W.cell? ⟨b,2,none⟩=some (.string s):=h.cell 2
theorem Box4.c3 {W:World} {b:Nat} {o n:Int} {s:ByteArray} {x:Value} (h:Box4 W b o n s x):W.cell? ⟨b,3,none⟩=some (x):=h.cell 3
theorem Box4.stay {W W':World} {b:Nat} {o n:Int} {s:ByteArray} {x:Value} (h:Box4 W b o n s x) (hb:Below W.heap.size W W'):Box4 W' b o n s x:=(hb.block b h.lt).trans h
theorem Box4.set {W:World} {b g i:Nat} {o n:Int} {s:ByteArray} {x:Value} (h:Box4 W b o n s x) (hn:b≠g) (u:Value):Box4 (W.setCell ⟨g,i,none⟩ u) b o n s x:=(heap_setCell_other W ⟨g,i,none⟩ b u hn).trans h
theorem Box4.keep {W W':World} {b g:Nat} {o n:Int} {s:ByteArray} {x:Value} (h:Box4 W b o n s x) (hk:Keep g (g+1) W W') (hb:g<b):Box4 W' b o n s x:=hk.blk b _ _ _ h (.inr ⟨hb,.inl rfl⟩)
structure Turn (g:Nat) (W W':World):Prop where
 low:Below g W W'
 keep:Keep g (g+1) W W'
theorem Turn.refl (g:Nat) (W:World):Turn g W W:=⟨Below.refl _ _,Keep.refl _ _ _⟩
theorem Turn.trans {g:Nat} {A B C:World} (h:Turn g A B) (k:Turn g B C):Turn g A C:=⟨h.low.trans k.low,h.keep.trans k.keep⟩
theorem Turn.later {g:Nat} {A B C:World} (h:Turn g A B) (hg:g≤A.heap.size) (hb:Below B.heap.size B C):Turn g A C :=
 h.trans ⟨hb.mono (by have:=h.low.size;omega),Keep.of_below hb⟩
theorem Turn.set {g i:Nat} {A B:World} (h:Turn g A B) (u:Value):Turn g A (B.setCell ⟨g,i,none⟩ u) :=
 ⟨h.low.setCell (p:=⟨g,i,none⟩) (Nat.le_refl _) _,h.keep.trans (Keep.grown (grownBy_set _ _ _ _) fun b e _ _ _ _=>by cases e;exact⟨Nat.le_refl _,.inl (by omega)⟩)⟩
theorem Seen.app1 {g:Nat} {k m f:Int} {l1 l2:List ByteArray} {W W':World} {v1 v2:Value} {s:ByteArray} {g' cap:Nat} (h1:Five W g (.int .i64 k) (.int .i64 m) (.int .i64 f) v1 v2) (h2:Nms (g+1) W v1 l1) (h3:Nms (g+1) W v2 l2) (h4:∀ b,v1.ownBlock=some b→v2.ownBlock≠some b)
  (hown:W'.ownsRow (g+1) 9 1 (.slice (some ⟨g',0,none⟩) (l1.length+1) cap) (l1.length+1) (l1.map Value.string++[.string s])) (hgr:W.grownBy W' v1.ownBlock) (hat:v1.ownBlock=some g'∨g'=W.heap.size) :
  Five W' g (.int .i64 k) (.int .i64 m) (.int .i64 f) v1 v2∧Seen g k m f (l1++[s]) l2 (W'.setCell ⟨g,3,none⟩ (.slice (some ⟨g',0,none⟩) (l1.length+1) cap))∧Turn g W W'∧(∀ b o n s x,g<b→Box4 W b o n s x→Box4 W' b o n s x):=by
 have hne:some g≠v1.ownBlock:=(fun e=>nms_not h2 _ e.symm rfl);have f1:=h1.grown hgr hne;have n2:Nms (g+1) W' v2 l2:=h3.grown hgr (fun b hb e=>h4 b e hb);have n1:Nms (g+1) W' (.slice (some ⟨g',0,none⟩) (l1.length+1) cap) (l1++[s]):=by
  show W'.ownsRow _ _ _ _ _ _;rw [List.length_append,List.map_append];exact hown
 have hk:Keep g (g+1) W W':=Keep.grown hgr fun b e cs t fr hv=>by
  obtain⟨q1,_,cs',q2⟩:=h2.blk e;rw [q2] at hv;cases hv;exact⟨by omega,.inr ⟨by decide,by decide⟩⟩
 refine⟨f1,⟨_,v2,f1.set3 _,n1.grown (grownBy_set _ _ _ _) (nms_not n1),n2.grown (grownBy_set _ _ _ _) (nms_not n2),fun b hb=>?_⟩,⟨(Below.refl _ _).grown hgr (by have:=h1.lt;omega) (fun b e=>by have:=(h2.blk e).1;omega),hk⟩,fun b o n s x hb hx=>hx.keep hk hb⟩;obtain rfl:g'=b:=(by simpa [Value.ownBlock] using hb);rcases hat with e | e
 ·exact h4 _ e
 ·intro e2;have:=(h3.blk e2).2.1;omega
theorem Seen.app2 {g:Nat} {k m f:Int} {l1 l2:List ByteArray} {W W':World} {v1 v2:Value} {s:ByteArray} {g' cap:Nat} (h1:Five W g (.int .i64 k) (.int .i64 m) (.int .i64 f) v1 v2) (h2:Nms (g+1) W v1 l1) (h3:Nms (g+1) W v2 l2) (h4:∀ b,v1.ownBlock=some b→v2.ownBlock≠some b)
  (hown:W'.ownsRow (g+1) 9 1 (.slice (some ⟨g',0,none⟩) (l2.length+1) cap) (l2.length+1) (l2.map Value.string++[.string s])) (hgr:W.grownBy W' v2.ownBlock) (hat:v2.ownBlock=some g'∨g'=W.heap.size) :
  Five W' g (.int .i64 k) (.int .i64 m) (.int .i64 f) v1 v2∧Seen g k m f l1 (l2++[s]) (W'.setCell ⟨g,4,none⟩ (.slice (some ⟨g',0,none⟩) (l2.length+1) cap))∧Turn g W W'∧(∀ b o n s x,g<b→Box4 W b o n s x→Box4 W' b o n s x):=by
 have hne:some g≠v2.ownBlock:=(fun e=>nms_not h3 _ e.symm rfl);have f1:=h1.grown hgr hne;have n1:Nms (g+1) W' v1 l1:=h2.grown hgr (fun b hb e=>h4 b hb e);have n2:Nms (g+1) W' (.slice (some ⟨g',0,none⟩) (l2.length+1) cap) (l2++[s]):=by
  show W'.ownsRow _ _ _ _ _ _;rw [List.length_append,List.map_append];exact hown
 have hk:Keep g (g+1) W W':=Keep.grown hgr fun b e cs t fr hv=>by
  obtain⟨q1,_,cs',q2⟩:=h3.blk e;rw [q2] at hv;cases hv;exact⟨by omega,.inr ⟨by decide,by decide⟩⟩
 refine⟨f1,⟨v1,_,f1.set4 _,n1.grown (grownBy_set _ _ _ _) (nms_not n1),n2.grown (grownBy_set _ _ _ _) (nms_not n2),fun b hb e2=>?_⟩,⟨(Below.refl _ _).grown hgr (by have:=h1.lt;omega) (fun b e=>by have:=(h3.blk e).1;omega),hk⟩,fun b o n s x hb hx=>hx.keep hk hb⟩;obtain rfl:g'=b:=(by simpa [Value.ownBlock] using e2);rcases hat with e | e
 ·exact h4 _ hb e
 ·have:=(h2.blk hb).2.1;omega
theorem StrsA.later {w w':World} {v:Value} {l:List ByteArray} (h:StrsA w v l) (hb:Below w.heap.size w w'):StrsA w' v l:=by
 obtain⟨p,cap,e,hc,hx⟩:=h;refine⟨p,cap,e,hc,fun h0=>?_⟩;obtain⟨b,off,e2,hcell⟩:=hx h0;exact⟨b,off,e2,fun i s hi=>(hb.cell (p:=⟨b,off+i,none⟩) (cell_lt (hcell i s hi))).trans (hcell i s hi)⟩
def fE (f:Int) (L:List In):Int:=L.foldl (fun f x=>if f=0 then fltS x else f) f
noncomputable def sN (p:Int→Bool) (l:List ByteArray) (L:List In):List ByteArray:=L.foldl (stepN p) l
theorem sN_len (p:Int→Bool) (L:List In):∀ l,(sN p l L).length≤l.length+L.length:=by
 induction L with
 | nil=>intro l;simp [sN]
 | cons y r ih =>
  intro l;have h1:=ih (stepN p l y);have h2:(stepN p l y).length≤l.length+1:=by
   unfold stepN addN;split
   ·split<;>simp
   ·omega
  show (sN p (stepN p l y) r).length≤_;simp only [List.length_cons];omega
noncomputable def SeenF (g k m:Nat) (f:Int) (l1 l2:List ByteArray) (L:List In) (W:World):Prop:=Seen g ((k+L.length:Nat):Int) ((max m (mxL L):Nat):Int) (fE f L) (sN isVr l1 L) (sN isAr l2 L) W
theorem SeenF.app {g k m:Nat} {f:Int} {l1 l2:List ByteArray} {A B:List In} {W:World} (h:SeenF g (k+A.length) (max m (mxL A)) (fE f A) (sN isVr l1 A) (sN isAr l2 A) B W):SeenF g k m f l1 l2 (A++B) W:=by
 unfold SeenF at *
 have e1:k+(A++B).length=k+A.length+B.length:=(by rw [List.length_append];omega);have e2:max m (mxL (A++B))=max (max m (mxL A)) (mxL B):=(by rw [mx_append];omega);have e3:fE f (A++B)=fE (fE f A) B:=(by unfold fE;rw [List.foldl_append]);have e4:∀ p l,sN p l (A++B)=sN p (sN p l A) B:=(fun p l=>by unfold sN;rw [List.foldl_append]);rw [e1,e2,e3,e4,e4];exact h
theorem SeenF.one {g k m:Nat} {f:Int} {l1 l2 L1 L2:List ByteArray} {F2 o n:Int} {s:ByteArray} {d K:Nat} {W:World} (hF:(if f=0 then fltS ⟨0,o,n,s,K⟩ else f)=F2) (h1:(if (isVr o&&!inL s l1)=true then l1++[s] else l1)=L1) (h2:(if (isAr o&&!inL s l2)=true then l2++[s] else l2)=L2)
  (h:Seen g ((k:Int)+1) ((max m d:Nat):Int) F2 L1 L2 W):SeenF g k m f l1 l2 [⟨d,o,n,s,K⟩] W:=by
 have st:∀ (p:Int→Bool) (l:List ByteArray),sN p l [⟨d,o,n,s,K⟩]=if (p o&&!inL s l)=true then l++[s] else l:=fun p l=>by
  show stepN p l ⟨d,o,n,s,K⟩=_;unfold stepN addN inL;by_cases hp:p o=true
  ·by_cases hm:s∈l
   ·rw [if_pos hp,if_pos hm,if_neg];simp [hp,hm]
   ·rw [if_pos hp,if_neg hm,if_pos];simp [hp,hm]
  ·rw [if_neg hp,if_neg];simp [hp]
 unfold SeenF;rw [st,st,h1,h2,mx_one];have:fE f [⟨d,o,n,s,K⟩]=F2:=hF;rw [this];exact h
end ExW
namespace ExW
open Go Go.RowKit NumM LexW LexM ExM
structure Mid (g:Nat) (k m f:Int) (l1 l2:List ByteArray) (b4:Nat) (o n:Int) (s:ByteArray) (x:Value) (W wx:World):Prop where
 seen:Seen g k m f l1 l2 wx
 box:Box4 wx b4 o n s x
 far:g<b4
 turn:Turn g W wx
theorem drew_below (W:World) (n:Nat):Below W.heap.size W (W.drewN n):=drewB (Below.refl _ _)
theorem Mid.later {g:Nat} {k m f:Int} {l1 l2:List ByteArray} {b4:Nat} {o n:Int} {s:ByteArray} {x:Value} {W wx wy:World} (h:Mid g k m f l1 l2 b4 o n s x W wx) (hg:g≤W.heap.size) (hb:Below wx.heap.size wx wy):Mid g k m f l1 l2 b4 o n s x W wy :=
 ⟨h.seen.later hb,h.box.stay hb,h.far,h.turn.later hg hb⟩
theorem see_any (g:Nat) (e:Ex):∀ (k m:Nat) (f:Int) (l1 l2:List ByteArray) (W:World) (d:Nat) (v:Value),Seen g k m f l1 l2 W→ExAt g W v e→k+sz e≤10000→d+sz e≤20000→l1.length≤k→l2.length≤k →
  Calls Tryz.prog 108 #[.pointer (some ⟨g,0,none⟩),v,.int .i64 d] W fun e' w'=>e'=.returned (.tuple #[])∧SeenF g k m f l1 l2 (pre d e) w'∧Turn g W w':=by
 induction e using Ex.ind with
 | h o n s ks ih =>
  intro k m f l1 l2 W d v hS hx hk hd hl1 hl2;obtain⟨p,cap,pl,cl,rfl,hs,ha⟩:=hx.form;simp only [Ex.op,Ex.n,Ex.nm,Ex.args] at hs ha ⊢;rw [sz_mk] at hk hd;have hkl:=ha.hl;have hb1:Below W.heap.size W (W.alloc (.cells #[.int .i64 o,.int .i64 n,.string s,.slice p ks.length cap] 43)):=(Below.refl _ _).alloc (Nat.le_refl _) _;have hgl:g<W.heap.size:=(by obtain⟨_,_,h5,_⟩:=hS;exact h5.lt);have HM0:Hid (Mid g k m f l1 l2 W.heap.size o n s (.slice p ks.length cap) W (W.alloc (.cells #[.int .i64 o,.int .i64 n,.string s,.slice p ks.length cap] 43))):=Lh ⟨hS.later hb1,heap_alloc_new _ _,hgl,(Turn.refl g W).later (by omega) hb1⟩;have HM1:Hid (∀ wx,Mid g k m f l1 l2 W.heap.size o n s (.slice p ks.length cap) W wx→Mid g ((k:Int)+1) m f l1 l2 W.heap.size o n s (.slice p ks.length cap) W (wx.setCell ⟨g,0,none⟩ (.int .i64 ((k:Int)+1)))):=(Lh fun wx h=>⟨h.seen.set0 _,h.box.set (by omega) _,h.far,h.turn.set _⟩);have HM2:Hid (∀ wx (u:Int),Mid g ((k:Int)+1) m f l1 l2 W.heap.size o n s (.slice p ks.length cap) W wx→Mid g ((k:Int)+1) u f l1 l2 W.heap.size o n s (.slice p ks.length cap) W (wx.setCell ⟨g,1,none⟩ (.int .i64 u))):=(Lh fun wx u h=>⟨h.seen.set1 _,h.box.set (by omega) _,h.far,h.turn.set _⟩);have WC:Hid (∀ W',Calls Tryz.prog 155 #[xv o n s (.slice p ks.length cap)] W' (tInt (fltS ⟨0,o,n,s,ks.length⟩) W')):=(Lh fun W'=>wrong_any o n s p ks.length cap W' hs hkl);have HA:=Lh ha;have HS:=Lh hS;clear ha hx hS hb1;generalize hKe:ks.length=K at *
  have HK:=Lh hKe;clear hKe
  go_enter Tryz.func108,Tryz.ntmps108
  go_upto_region 1 with (fail)
  have HGL:=Lh hgl;clear hgl;generalize W.alloc (.cells #[.int .i64 o,.int .i64 n,.string s,.slice p K cap] 43)=W1 at *
  generalize hb4:W.heap.size=b4 at *
  obtain⟨_,_,h5,_⟩:=HM0.out.seen;have a0:=h5.c0;have z0:=h5.frz 0;obtain⟨_,_,h6,_⟩:=(HM1.out _ HM0.out).seen;have a1:=h6.c1;have z1:=h6.frz 1;clear h5 h6
  go_upto_if 20 with (fail)
  go_cut [] (fun wx=>Hid (Mid g ((k:Int)+1) ((max m d:Nat):Int) f l1 l2 b4 o n s (.slice p K cap) W wx))
  case first =>
   by_cases hdm:(m:Int)<(d:Int)
   ·go_wp2_with fail
    go_meet
    have:=HM2.out _ (d:Int) (HM1.out _ HM0.out);rw [show ((max m d:Nat):Int)=(d:Int) by omega];exact Lh this
   ·go_wp2_with fail
    go_meet
    rw [show ((max m d:Nat):Int)=(m:Int) by omega];exact Lh (HM1.out _ HM0.out)
  case rest =>
   clear a0 a1 z0 z1 HM0 HM1 HM2;obtain⟨M,hMd⟩:∃ M,((max m d:Nat):Int)=M:=⟨_,rfl⟩;rw [hMd] at hcut;have HMd:=Lh hMd;clear hMd;obtain⟨v1',v2',h5,_⟩:=hcut.out.seen;have a2:=h5.c2;have z2:=h5.frz 2;have hbx:=hcut.out.box;have b0:=hbx.c0;have b1:=hbx.c1;have b2:=hbx.c2;have b3:=hbx.c3;clear h5 hbx;obtain⟨F2,hF2⟩:∃ F2,(if f=0 then fltS ⟨0,o,n,s,K⟩ else f)=F2:=⟨_,rfl⟩;have HF2:=Lh hF2;clear hF2
   go_upto_if 29 with (fail)
   go_cut [] (fun wx=>Hid (Mid g ((k:Int)+1) M F2 l1 l2 b4 o n s (.slice p K cap) W wx))
   case first =>
    by_cases hf:f=0
    ·have hF:F2=fltS ⟨0,o,n,s,K⟩:=(by rw [←HF2.out,if_pos hf]);subst hf;go_wp2_with (go_at_call 155;((with_reducible refine (WC.out _).mono ?_);rintro e w5 ⟨rfl,hb⟩;have hM5:=hcut.out.later (by have:=HGL.out;omega) hb;obtain⟨_,_,h6,_⟩:=hM5.seen;have c2:=h6.c2;have z3:=h6.frz 2;have HM5:=Lh hM5;clear h6 hM5 hb))
     go_meet
     rw [hF];have h:=HM5.out;exact Lh ⟨h.seen.set2 _,h.box.set (by have:=h.far;omega) _,h.far,h.turn.set _⟩
    ·have hf2:(f == 0)=false:=(by rw [beq_eq_false_iff_ne];exact hf);have hF:F2=f:=(by rw [←HF2.out,if_neg hf]);clear hf;go_wp2_with fail
     go_meet
     rw [hF];exact hcut
   case rest =>
    clear a2 z2 b0 b1 b2 b3 WC;obtain⟨v3,v4,h7,n1,n2,ap⟩:=hcut.out.seen;have c3:=h7.c3;have b0:=hcut.out.box.c0;have b2:=hcut.out.box.c2;have HC:Hid (∀ i,Calls Tryz.prog 156 #[v3,.string s] (wc.drewN i) fun e w'=>e=.returned (.bool (inL s l1))∧wc.drewN i=w'):=(Lh fun i=>has_any l1 v3 s _ ((strs_own n1).later (drew_below _ _)) (by omega));have e2:(o == 2)=isVr o:=(by unfold isVr;rw [Bool.eq_iff_iff];simp);generalize hVe:isVr o=V at *
    generalize hIe:inL s l1=I1 at *
    have HVe:=Lh hVe;have HIe:=Lh hIe;clear hVe hIe
    go_upto_region 6 with (fail)
    go_cut [47] (fun s47 wx=>s47=.bool (V&&!I1)∧Hid (Mid g ((k:Int)+1) M F2 l1 l2 b4 o n s (.slice p K cap) W wx))
    case first =>
     cases V
     all_goals
      go_quiet ((go_at_call 156;first | exact quietL (HC.out _) | exact quietA (HC.out _)))
      go_wp2_with fail
      go_meet
      exact⟨rfl,Lh (hcut.out.later (by have:=HGL.out;omega) (drew_below _ _))⟩
    case rest =>
     obtain⟨rfl,hM⟩:=hcut;clear c3 b0 b2 h7 n1 n2 ap HC e2;obtain⟨v5,v6,h8,n3,n4,ap2⟩:=hM.out.seen;have c3:=h8.c3;have z3:=h8.frz 3;have b2:=hM.out.box.c2;have hbl:=hM.out.box.lt;have hgl2:=h8.lt;obtain⟨L1,hL1⟩:∃ L1,(if (V&&!I1)=true then l1++[s] else l1)=L1:=⟨_,rfl⟩;have HL1:=Lh hL1;have H8:=Lh h8;have N3:=Lh n3;have N4:=Lh n4;have AP2:=Lh ap2;clear hL1 h8 n3 n4 ap2
     go_upto_if 47 with (fail)
     go_cut [] (fun wx=>Hid (Mid g ((k:Int)+1) M F2 L1 l2 b4 o n s (.slice p K cap) W wx))
     case first =>
      cases hX:(V&&!I1)
      ·have hL:L1=l1:=(by rw [←HL1.out,hX];rfl);go_wp2_with fail
       go_meet
       rw [hL];exact hM
      ·have hL:L1=l1++[s]:=(by rw [←HL1.out,hX];rfl);obtain⟨i0,hi,hz0,hz1,hz2⟩:=info_parts infoS;go_wp2_with fail
       go_region_law (go_loud (refine step_append_lies _ rfl (.tmp 52) (.tmp 55) 27 rfl (g+1) 9 i0 (.string ⟨#[]⟩) 1 16 Tryz.underlying27 hi hz0 hz1 hz2 rfl (by decide) v5 l1.length (l1.map Value.string) (by simp [Act.eval]) (N3.out.later (by first | exact ((Below.refl _ _).alloc (Nat.le_refl _) _).drew | exact (Below.refl _ _).alloc (Nat.le_refl _) _)) ⟨wc.heap.size,0,none⟩ 1 1 [.string s] (by simp [Act.eval]) rfl (World.news_of_block (cs:=#[.string s]) (by first | exact heap_alloc_new _ _ | exact heap_alloc_new wc _)) (by simp [Value.oneCell']) (by decide) (by unfold maxLen;omega) (by omega) (Nat.le_trans hgl2 (by first | (rw [World.size_alloc];omega) | (show wc.heap.size≤(wc.alloc _).heap.size;rw [World.size_alloc];omega))) _ rfl ?_;intro g' cp w1 hown hgr hat hlt;obtain⟨f1,sn,tn,bx⟩:=Seen.app1 (H8.out.stay (by first | exact ((Below.refl _ _).alloc (Nat.le_refl _) _).drew | exact (Below.refl _ _).alloc (Nat.le_refl _) _)) (N3.out.later (by first | exact ((Below.refl _ _).alloc (Nat.le_refl _) _).drew | exact (Below.refl _ _).alloc (Nat.le_refl _) _)) (N4.out.later (by first | exact ((Below.refl _ _).alloc (Nat.le_refl _) _).drew | exact (Below.refl _ _).alloc (Nat.le_refl _) _)) AP2.out hown hgr hat;have q3:=f1.c3;have y3:=f1.frz 3;have SN:=Lh sn;have TN:=Lh tn;have BX:=Lh bx;clear f1 sn tn bx hown hgr hat hlt))
       all_goals
        go_wp2_with fail
        go_meet
        rw [hL];exact Lh ⟨SN.out,((BX.out _ _ _ _ _ hM.out.far (hM.out.box.stay (by first | exact ((Below.refl _ _).alloc (Nat.le_refl _) _).drew | exact (Below.refl _ _).alloc (Nat.le_refl _) _))).set (by have:=hM.out.far;omega) _),hM.out.far,((hM.out.turn.later (by have:=HGL.out;omega) (by first | exact ((Below.refl _ _).alloc (Nat.le_refl _) _).drew | exact (Below.refl _ _).alloc (Nat.le_refl _) _)).trans TN.out).set _⟩
     case rest =>
      clear c3 z3 b2 hbl hgl2 H8 N3 N4 AP2 hM;have hl1':L1.length≤k+1:=by
       rw [←HL1.out];split
       ·rw [List.length_append];simp;omega
       ·omega
      obtain⟨v7,v8,h7,n1,n2,ap⟩:=hcut.out.seen;have c4:=h7.c4;have b0:=hcut.out.box.c0;have b2:=hcut.out.box.c2;have HC:Hid (∀ i,Calls Tryz.prog 156 #[v8,.string s] (wc.drewN i) fun e w'=>e=.returned (.bool (inL s l2))∧wc.drewN i=w'):=(Lh fun i=>has_any l2 v8 s _ ((strs_own n2).later (drew_below _ _)) (by omega));have HA3:Hid (isAr o=((o == 3)||(o == 24))):=Lh (by unfold isAr;rw [Bool.eq_iff_iff];simp);obtain⟨A,hA⟩:∃ A,isAr o=A:=⟨_,rfl⟩;have HAr:=Lh hA;clear hA;generalize hI2:inL s l2=I2 at *
      have HI2:=Lh hI2;clear hI2
      go_upto_region 8 with (fail)
      go_cut [76] (fun s76 wx=>s76=.bool (A&&!I2)∧Hid (Mid g ((k:Int)+1) M F2 L1 l2 b4 o n s (.slice p K cap) W wx))
      case first =>
       have hA2:=HA3.out;rw [HAr.out] at hA2;cases h3:(o == 3)<;>cases h24:(o == 24)
       all_goals
        rw [h3,h24] at hA2;have hA3:A=_:=hA2;subst hA3;clear hA2;go_quiet ((go_at_call 156;first | exact quietL (HC.out _) | exact quietA (HC.out _)))
        go_wp2_with fail
        go_meet
        exact⟨rfl,Lh (hcut.out.later (by have:=HGL.out;omega) (drew_below _ _))⟩
      case rest =>
       obtain⟨rfl,hM3⟩:=hcut;clear c4 b0 b2 h7 n1 n2 ap HC;obtain⟨v9,v10,h9,n5,n6,ap3⟩:=hM3.out.seen;have c4:=h9.c4;have z4:=h9.frz 4;have b2:=hM3.out.box.c2;have hbl3:=hM3.out.box.lt;have hgl3:=h9.lt;obtain⟨L2,hL2⟩:∃ L2,(if (A&&!I2)=true then l2++[s] else l2)=L2:=⟨_,rfl⟩;have HL2:=Lh hL2;have H9:=Lh h9;have N5:=Lh n5;have N6:=Lh n6;have AP3:=Lh ap3;clear hL2 h9 n5 n6 ap3
       go_upto_if 76 with (fail)
       go_cut [] (fun wx=>Hid (Mid g ((k:Int)+1) M F2 L1 L2 b4 o n s (.slice p K cap) W wx))
       case first =>
        cases hX:(A&&!I2)
        ·have hL2:L2=l2:=(by rw [←HL2.out,hX];rfl);go_wp2_with fail
         go_meet
         rw [hL2];exact hM3
        ·have hL2:L2=l2++[s]:=(by rw [←HL2.out,hX];rfl);obtain⟨i0,hi,hz0,hz1,hz2⟩:=info_parts infoS;go_wp2_with fail
         go_region_law (go_loud (refine step_append_lies _ rfl (.tmp 81) (.tmp 84) 27 rfl (g+1) 9 i0 (.string ⟨#[]⟩) 1 16 Tryz.underlying27 hi hz0 hz1 hz2 rfl (by decide) v10 l2.length (l2.map Value.string) (by simp [Act.eval]) (N6.out.later (by first | exact ((Below.refl _ _).alloc (Nat.le_refl _) _).drew | exact (Below.refl _ _).alloc (Nat.le_refl _) _)) ⟨wc.heap.size,0,none⟩ 1 1 [.string s] (by simp [Act.eval]) rfl (World.news_of_block (cs:=#[.string s]) (by first | exact heap_alloc_new _ _ | exact heap_alloc_new wc _)) (by simp [Value.oneCell']) (by decide) (by unfold maxLen;omega) (by omega) (Nat.le_trans hgl3 (by first | (rw [World.size_alloc];omega) | (show wc.heap.size≤(wc.alloc _).heap.size;rw [World.size_alloc];omega))) _ rfl ?_;intro g' cp w1 hown hgr hat hlt;obtain⟨f1,sn,tn,bx⟩:=Seen.app2 (H9.out.stay (by first | exact ((Below.refl _ _).alloc (Nat.le_refl _) _).drew | exact (Below.refl _ _).alloc (Nat.le_refl _) _)) (N5.out.later (by first | exact ((Below.refl _ _).alloc (Nat.le_refl _) _).drew | exact (Below.refl _ _).alloc (Nat.le_refl _) _)) (N6.out.later (by first | exact ((Below.refl _ _).alloc (Nat.le_refl _) _).drew | exact (Below.refl _ _).alloc (Nat.le_refl _) _)) AP3.out hown hgr hat;have q3:=f1.c4;have y3:=f1.frz 4;have SN:=Lh sn;have TN:=Lh tn;have BX:=Lh bx;clear f1 sn tn bx hown hgr hat hlt))
         all_goals
          go_wp2_with fail
          go_meet
          rw [hL2];exact Lh ⟨SN.out,((BX.out _ _ _ _ _ hM3.out.far (hM3.out.box.stay (by first | exact ((Below.refl _ _).alloc (Nat.le_refl _) _).drew | exact (Below.refl _ _).alloc (Nat.le_refl _) _))).set (by have:=hM3.out.far;omega) _),hM3.out.far,((hM3.out.turn.later (by have:=HGL.out;omega) (by first | exact ((Below.refl _ _).alloc (Nat.le_refl _) _).drew | exact (Below.refl _ _).alloc (Nat.le_refl _) _)).trans TN.out).set _⟩
       case rest =>
        clear c4 z4 b2 hbl3 hgl3 H9 N5 N6 AP3 hM3;have h0:SeenF g k m f l1 l2 [⟨d,o,n,s,K⟩] wc:=SeenF.one (L1:=L1) (L2:=L2) HF2.out (by rw [HVe.out,HIe.out];exact HL1.out) (by rw [HAr.out,HI2.out];exact HL2.out) (by rw [HMd.out];exact hcut.out.seen);have b3:=hcut.out.box.c3;have HS0:=Lh h0;have HB0:=Lh hcut.out.box;have HT0:=Lh hcut.out.turn;have HFAR:=Lh hcut.out.far;have HIH:=Lh ih;clear h0 hcut HL1 HL2 HF2 HMd HVe HIe HAr HI2 HA3 hl1' ih;go_wp2_with fail
        go_loopw [6] (fun i wr=>∃ j:Nat,j≤K∧i=.int .i64 j∧Hid (SeenF g k m f l1 l2 (⟨d,o,n,s,K⟩::pres (d+1) (ks.take j)) wr)∧Hid (Box4 wr b4 o n s (.slice p K cap))∧Hid (Turn g W wr)) (fun i _=>K - (intOf i).toNat)
        case atStart=>exact⟨0,Nat.zero_le _,rfl,Lh (by rw [List.take_zero,pres_nil];exact HS0.out),HB0,HT0⟩
        case round =>
         obtain⟨j,hj,rfl,SS,BX,TT⟩:=hrel;clear b3;have b3:=BX.out.c3;by_cases hlt:j<K
         ·obtain⟨b,off,rfl,hbs,hcell⟩:=HA.out.hp (by rw [HK.out];omega);obtain⟨a,hak⟩:∃ a,ks[j]? = some a:=⟨_,List.getElem?_eq_getElem (by rw [HK.out];exact hlt)⟩;obtain⟨q0,q1,q2,q3⟩:=hcell j a hak;have hbw:Below g W wr:=TT.out.low;have ca0:wr.cell? ⟨b,off+j*4,none⟩=some (.int .i64 a.op):=(by rw [hbw.cell hbs];exact q0);have ca1:wr.cell? ⟨b,off+j*4+1,none⟩=some (.int .i64 a.n):=(by rw [hbw.cell hbs];exact q1);have ca2:wr.cell? ⟨b,off+j*4+2,none⟩=some (.string a.nm):=(by rw [hbw.cell hbs];exact q2);have ca3:wr.cell? ⟨b,off+j*4+3,none⟩=some (.slice (pl j) a.args.length (cl j)):=(by rw [hbw.cell hbs];exact q3);have hxa:=HA.out.hx j a hak;have hln:(pres (d+1) (ks.take j)).length=szs (ks.take j):=pres_len (fun a _=>pre_len a _);have ht1:=szs_take hak;have ht2:=szs_take_le (j+1) ks;have s1:=sN_len isVr (⟨d,o,n,s,K⟩::pres (d+1) (ks.take j)) l1;have s2:=sN_len isAr (⟨d,o,n,s,K⟩::pres (d+1) (ks.take j)) l2;simp only [List.length_cons] at s1 s2;have IC:=HIH.out a (List.mem_of_getElem? hak) _ _ _ _ _ wr (d+1) _ SS.out (hxa.under hbw) (by simp only [List.length_cons];omega) (by have:=szs_take_le j ks;omega) (by simp only [List.length_cons];omega) (by simp only [List.length_cons];omega);rw [show ((d+1:Nat):Int)=(d:Int)+1 by omega] at IC;have NX:Hid (∀ w',SeenF g (k+(⟨d,o,n,s,K⟩::pres (d+1) (ks.take j)).length) (max m (mxL (⟨d,o,n,s,K⟩::pres (d+1) (ks.take j)))) (fE f (⟨d,o,n,s,K⟩::pres (d+1) (ks.take j))) (sN isVr l1 (⟨d,o,n,s,K⟩::pres (d+1) (ks.take j))) (sN isAr l2 (⟨d,o,n,s,K⟩::pres (d+1) (ks.take j))) (pre (d+1) a) w'→SeenF g k m f l1 l2 (⟨d,o,n,s,K⟩::pres (d+1) (ks.take (j+1))) w'):=Lh fun w' h=>by
           have:=SeenF.app h;rw [pres_take hak];exact this
          obtain⟨ao,hao⟩:∃ x,a.op=x:=⟨_,rfl⟩;obtain⟨an,han⟩:∃ x,a.n=x:=⟨_,rfl⟩;obtain⟨am,ham⟩:∃ x,a.nm=x:=⟨_,rfl⟩;obtain⟨ak,hka⟩:∃ x,a.args.length=x:=⟨_,rfl⟩;obtain⟨ap,hap⟩:∃ x,pl j=x:=⟨_,rfl⟩;obtain⟨ac,hac⟩:∃ x,cl j=x:=⟨_,rfl⟩;rw [hao] at ca0 IC;rw [han] at ca1 IC;rw [ham] at ca2 IC;rw [hka,hap,hac] at ca3 IC;have IC:=Lh IC;clear hcell q0 q1 q2 q3 hbw hxa hak hao han ham hka hap hac hln ht1 ht2 s1 s2;go_wp2_with (go_at_call 108;((with_reducible refine IC.out.mono ?_);rintro e w5 ⟨rfl,hs5,ht5⟩;have SS5:=Lh (NX.out _ hs5);have BX5:=Lh (BX.out.keep ht5.keep HFAR.out);have TT5:=Lh (TT.out.trans ht5);clear hs5 ht5))
          go_roundw
          case rel=>exact⟨j+1,by omega,by go_num,SS5,BX5,TT5⟩
          case measure=>simp [intOf];omega
         ·have hjK:ks.take j=ks:=List.take_of_length_le (by rw [HK.out];omega);have FIN:Hid (SeenF g k m f l1 l2 (pre d (.mk o n s ks)) wr):=Lh (by rw [pre_mk,HK.out,←hjK];have:=SS.out;rw [hjK] at this ⊢;exact this);go_wp2
          go_end0
          exact⟨rfl,FIN.out,TT.out⟩
end ExW
namespace ExW
open Go Go.RowKit NumM LexW LexM ExM
def SeenE (g:Nat) (e:Ex) (W:World):Prop:=Seen g (sz e) (dep e) (fstE (pre 1 e)) (namesL isVr (pre 1 e)) (namesL isAr (pre 1 e)) W
theorem SeenE.of {g:Nat} {e:Ex} {W:World} (h:SeenF g 0 0 0 [] [] (pre 1 e) W):SeenE g e W:=by
 unfold SeenF at h;have h1:=pre_mx e 1;have h2:=pre_len e 1;rw [show 0+(pre 1 e).length=sz e by omega,show max 0 (mxL (pre 1 e))=dep e by omega] at h;exact h
theorem over_any (e:Ex) (v:Value) (w:World) (hx:ExAt w.heap.size w v e) (hsz:sz e≤10000) :
  Calls Tryz.prog 61 #[v] w fun x w'=>x=.returned (.pointer (some ⟨w.heap.size+1,0,none⟩))∧SeenE (w.heap.size+1) e w'∧Below w.heap.size w w':=by
 obtain⟨p,cap,pl,cl,rfl,hs,_⟩:=hx.form;have hb2:Below w.heap.size w ((w.alloc (.cells #[.int .i64 e.op,.int .i64 e.n,.string e.nm,.slice p e.args.length cap] 43)).alloc (.cells #[.int .i64 0,.int .i64 0,.int .i64 0,.slice none 0 0,.slice none 0 0] 98)):=((Below.refl _ _).alloc (Nat.le_refl _) _).alloc (by simp) _;have five:=Five.new (w.alloc (.cells #[.int .i64 e.op,.int .i64 e.n,.string e.nm,.slice p e.args.length cap] 43)) (.int .i64 0) (.int .i64 0) (.int .i64 0) (.slice none 0 0) (.slice none 0 0);rw [World.size_alloc] at five;have SC0:=(see_any (w.heap.size+1) e 0 0 0 [] [] _ 1 _ ⟨_,_,five,World.ownsRow_nil _ _ _ _,World.ownsRow_nil _ _ _ _,fun b hb=>by simp [Value.ownBlock] at hb⟩ ((hx.under hb2).wide (by omega)) (by omega) (by omega) (by simp) (by simp));rw [show ((1:Nat):Int)=1 from rfl] at SC0;have SC:=Lh SC0;clear SC0;have four:=(Four.new w (.int .i64 e.op) (.int .i64 e.n) (.string e.nm) (.slice p e.args.length cap) 43).alloc (.cells #[.int .i64 0,.int .i64 0,.int .i64 0,.slice none 0 0,.slice none 0 0] 98);have c0:=four.c0;have c1:=four.c1;have c2:=four.c2;have c3:=four.c3;have HB2:=Lh hb2;have HSE:Hid (∀ w',SeenF (w.heap.size+1) 0 0 0 [] [] (pre 1 e) w'→SeenE (w.heap.size+1) e w'):=(Lh fun w' h=>SeenE.of h);clear hx hs hb2 five four;generalize SeenE (w.heap.size+1) e=P at *
 generalize SeenF (w.heap.size+1) 0 0 0 [] [] (pre 1 e)=Q at *
 generalize e.op=o at *
 generalize e.n=n at *
 generalize e.nm=s at *
 generalize e.args.length=K at *
 go_enter Tryz.func61,Tryz.ntmps61
 go_wp2_with (go_at_call 108;((with_reducible refine SC.out.mono ?_);rintro e w5 ⟨rfl,hs5,ht5⟩;have S5:=Lh (HSE.out _ hs5);have B5:=Lh (HB2.out.trans (ht5.low.mono (by omega)));clear hs5 ht5))
 go_ret;exact⟨rfl,S5.out,B5.out⟩
theorem dep_sz (e:Ex):dep e≤sz e:=by
 induction e using Ex.ind with
 | h o n s ks ih =>
  rw [dep_mk,sz_mk];have:deps ks≤szs ks:=by
   induction ks with
   | nil=>rw [deps_nil];omega
   | cons a r ih2 =>
    rw [deps_cons,szs_cons];have h1:=ih a (by simp);have h2:=ih2 (fun b hb=>ih b (by simp [hb]));omega
  omega
theorem vld_eq (e:Ex):vld e=if fstE (pre 1 e)=0 then (if 24<dep e∨400<sz e then 2 else 0) else fstE (pre 1 e):=by
 have h1:=pre_mx e 1;have h2:=pre_len e 1;unfold vld vldL;rw [h2,show mxL (pre 1 e)=dep e by omega]
theorem validR_any (e:Ex) (v:Value) (w:World) (hx:ExAt w.heap.size w v e) (hsz:sz e≤10000) :
  Calls Tryz.prog 51 #[v] w (tInt (vld e) w):=by
 obtain⟨p,cap,pl,cl,rfl,hs,_⟩:=hx.form;have hb1:Below w.heap.size w (w.alloc (.cells #[.int .i64 e.op,.int .i64 e.n,.string e.nm,.slice p e.args.length cap] 43)):=(Below.refl _ _).alloc (Nat.le_refl _) _;have OC:=over_any e _ _ (hx.later hb1) hsz;rw [World.size_alloc] at OC;have OC:=Lh OC;have four:=Four.new w (.int .i64 e.op) (.int .i64 e.n) (.string e.nm) (.slice p e.args.length cap) 43;have c0:=four.c0;have c1:=four.c1;have c2:=four.c2;have c3:=four.c3;have HB1:=Lh hb1;have VE:=Lh (vld_eq e);have hd:=dep_sz e;have HFV:Hid (∀ W,SeenE (w.heap.size+1+1) e W→W.cell? ⟨w.heap.size+1+1,0,none⟩=some (.int .i64 (sz e))∧W.cell? ⟨w.heap.size+1+1,1,none⟩=some (.int .i64 (dep e))∧W.cell? ⟨w.heap.size+1+1,2,none⟩=some (.int .i64 (fstE (pre 1 e)))):=Lh fun W h=>by
  obtain⟨_,_,h5,_⟩:=h;exact⟨h5.c0,h5.c1,h5.c2⟩
 clear hx hs hb1 four;generalize fstE (pre 1 e)=f at *
 generalize vld e=vv at *
 generalize SeenE (w.heap.size+1+1) e=P at *
 generalize dep e=D at *
 generalize sz e=Z at *
 generalize e.op=o at *
 generalize e.n=n at *
 generalize e.nm=s at *
 generalize e.args.length=K at *
 have cs:(f≠0∧vv=f)∨(f=0∧24<D∧vv=2)∨(f=0∧¬ 24<D∧400<Z∧vv=2)∨(f=0∧¬ 24<D∧¬ 400<Z∧vv=0):=by
  have:=VE.out;by_cases h0:f=0
  ·rw [if_pos h0] at this;by_cases h1:24<D
   ·rw [if_pos (.inl h1)] at this;exact .inr (.inl ⟨h0,h1,this⟩)
   ·by_cases h2:400<Z
    ·rw [if_pos (.inr h2)] at this;exact .inr (.inr (.inl ⟨h0,h1,h2,this⟩))
    ·rw [if_neg (by omega)] at this;exact .inr (.inr (.inr ⟨h0,h1,h2,this⟩))
  ·rw [if_neg h0] at this;exact .inl ⟨h0,this⟩
 clear VE;rcases cs with ⟨h0,hv⟩ | ⟨h0,h1,hv⟩ | ⟨h0,h1,h2,hv⟩ | ⟨h0,h1,h2,hv⟩
 ·have h0':(f == 0)=false:=(by rw [beq_eq_false_iff_ne];exact h0);clear h0
  go_enter Tryz.func51,Tryz.ntmps51
  go_wp2_with (go_at_call 61;((with_reducible refine OC.out.mono ?_);rintro e w5 ⟨rfl,hse,hb⟩;obtain⟨k0,k1,k2⟩:=HFV.out _ hse;have B5:=Lh (HB1.out.then_ (by rw [World.size_alloc];exact hb));clear hse hb))
  go_ret;exact tInt_mk hv.symm B5.out
 all_goals
  subst h0
  go_enter Tryz.func51,Tryz.ntmps51
  go_wp2_with (go_at_call 61;((with_reducible refine OC.out.mono ?_);rintro e w5 ⟨rfl,hse,hb⟩;obtain⟨k0,k1,k2⟩:=HFV.out _ hse;have B5:=Lh (HB1.out.then_ (by rw [World.size_alloc];exact hb));clear hse hb))
  go_ret;first
   | exact tInt_mk hv.symm B5.out
   | exact tInt_mk rfl B5.out
end ExW
end Go.Proofs.YtpejflgdehioaaaGreatDoor
