/-
  Laws that the card uses; no conditions beside those that each states (ItRange ItMem ExSig ExComp ExBuild ExNames).
-/
import Derived.Maps.OwnIn
import Derived.Maps.AppendAt
import Derived.Maps.OwnSet
import Derived.Maps.Views
import Derived.Deep.RegionWith
import Derived.Deep.DeepCutAuto
import Derived.OwnWalk
import Derived.RangeFuncBound
import Derived.Laws.EntriesVeiled
import Derived.RangeFuncLeaves
import Derived.Shelf.Abstract
import Derived.OwnWalkIn
import Derived.TacticsInMore
import Derived.LoopNIn
import Derived.LoopIn
import Derived.Test.YtpejflgdehioaaaGreatDoorU02
set_option maxRecDepth 100000
set_option maxHeartbeats 16000000
namespace Go.Proofs.YtpejflgdehioaaaGreatDoor
namespace ItW
open Go Go.RowKit ExW
def Tells {α:Type} (F:Fence) (n:Nat) (P:Program) (g:Nat) (lb:Array Value) (encs:α→Array Value) (Kp:World→World→Prop) (S Sp:List α→Prop) (N:Nat) (Q:α→World→Prop) (w:World):Prop :=
 ∀ (l:Nat) (J Jx:List α→World→Prop) (W:World),Below w.heap.size w W→AbidesFrom W.heap.size J→AbidesFrom W.heap.size Jx →
  (∀ bef x A,J bef A→Q x A→bef.length<N→YieldAt F (n - 1) P l (encs x) A fun e B =>
   (e=.returned (.bool true)∧J (bef++[x]) B∧Kp A B)∨(e=.returned (.bool false)∧Jx (bef++[x]) B∧Kp A B)) →
  J [] W→CallsIn F n P g (#[.func (.yield l) #[] #[]]++lb) W fun e B=>(∃ v,e=.returned v)∧((∃ xs,S xs∧J xs B)∨(∃ bef,Sp bef∧Jx bef B))
structure Near (A B:World):Prop where
 size:B.heap.size=A.heap.size
 blk:∀ (b:Nat) (o:Obj),A.heap[b]? = some o→(∀ r,o≠.loop r)→B.heap[b]? = some o
theorem Near.put {A:World} {l:Nat} {r r':Loop} (h:A.heap[l]? = some (.loop r)):Near A (A.putObj l (.loop r')):=by
 refine⟨by simp,fun b o hb hn=>?_⟩;have:b≠l:=(fun e=>by subst e;rw [h] at hb;cases hb;exact hn r rfl);exact (World.putObj_heap_other this).trans hb
theorem Near.cell {A B:World} (h:Near A B) {b o:Nat} {v:Value} (hv:A.cell? ⟨b,o,none⟩=some v):B.cell? ⟨b,o,none⟩=some v:=by
 obtain⟨cs,t,fr,hc⟩:=cell_cells hv;exact (World.cell?_of_block (w:=A) (by rw [h.blk b _ hc (fun r e=>by cases e),hc])).trans hv
def leftT {α:Type} (B:Nat) (Kp:World→World→Prop) (I:List α→World→Prop) (Ix:Code→List α→World→Prop) (xs:List α) (W:World):Exit→Act→World→Prop
 | .normal,_,W'=>KeepsFrom B W W'∧Kp W W'∧I xs W'
 | .ret,_,W'=>KeepsFrom B W W'∧Kp W W'∧Ix .ret xs W'
 | .exit id,_,W'=>KeepsFrom B W W'∧Kp W W'∧Ix (.exit id) xs W'
 | .goto t,_,W'=>KeepsFrom B W W'∧Kp W W'∧Ix (.goto t) xs W'
 | .panic _,_,_=>False
 | .outgrown,_,_=>False
section
variable {F:Fence} {n:Nat} {P:Program}
theorem range_tells {α:Type} {g:Operand} {ps:Array Tmp} {assign body:Code} {Q:Exit→Act→World→Prop} {a:Act} {w:World}
  (hro:F.round=none) (h1:1≤n) {gf:Nat} {lb:Array Value} (hg:a.eval g=.func (.func gf) #[] lb) (hFg:F.fn gf) (eg:∀ args w,(callFunc gf args).run P w=.ok (.enter gf args) w)
  {encs:α→Array Value} {Kp:World→World→Prop} {S Sp:List α→Prop} {N:Nat} {R:α→World→Prop} (hseq:Tells F (n - 1) P gf lb encs Kp S Sp N R w)
  (hKt:∀ {A B C:World},Kp A B→Kp B C→Kp A C) (hKb:∀ (W:World) (l:Nat) (o o':Obj),w.heap.size≤l→W.heap[l]? = some o→o.isCells=false→o.isWalk=false→Kp W (W.putObj l o')) (hps:∀ x,(encs x).size=ps.size)
  (I:List α→World→Prop) (Ix:Code→List α→World→Prop) (hI:OwnFrom w.heap.size I) (hIx:∀ c,OwnFrom w.heap.size (Ix c)) (h0:I [] w)
  (hround:∀ (l:Nat) (bef:List α) (x:α) (W:World),w.heap.size≤l→I bef W→R x W→bef.length<N →
   assign.wpIn (F.inRound l) (n - 1 - 1) P (Exit.then (fun a' Wa=>KeepsFrom w.heap.size W Wa∧Kp W Wa∧I bef Wa ∧
    ∀ Wb,Near Wa Wb→I bef Wb→body.wpIn (F.inRound l) (n - 1 - 1) P (leftT w.heap.size Kp I Ix (bef++[x]) Wb) a' Wb) (fun _ _ _=>False))
    { tmps:=(ps.zip (encs x)).foldl (fun t (p,v)=>t.setIfInBounds p v) a.tmps,defers:=[] } W)
  (hdone:∀ (D:Nat) (xs:List α) (W:World),w.heap.size≤D→S xs→I xs W→W.heap[D]? = some (.deferred (some []))→Q .normal { a with defers:={ target:=.collected D,args:=#[] }::a.defers } W)
  (hstop:∀ (D:Nat) (c:Code) (bef:List α) (W:World),w.heap.size≤D→Sp bef→Ix c bef W→W.heap[D]? = some (.deferred (some []))→c.wpIn F n P Q { a with defers:={ target:=.collected D,args:=#[] }::a.defers } W) :
  (Code.rangeFunc g ps assign body).wpIn F n P Q a w:=by
 refine (wpIn_rangeFunc fun fn hfn=>?_);rw [hro]
 -- The record of the loop,and the world in which the iterator is called.
 obtain⟨rec,hrec⟩:∃ rec:LoopState→Option Code→Loop,rec=fun st pe=>{ state:=st,pending:=pe,fn,tmps:=a.tmps,params:=ps,assign,body,defers:=w.heap.size }:=⟨_,rfl⟩
 have hp:∀ st pe x,(encs x).size=(rec st pe).params.size:=(fun st pe x=>by rw [hrec];exact hps x);have hsz:(w.alloc (.deferred (some []))).heap.size=w.heap.size+1:=(by simp);obtain⟨W1,hW1⟩:∃ W1,(w.alloc (.deferred (some []))).alloc (.loop (rec .ready none))=W1:=⟨_,rfl⟩;have hz1:W1.heap.size=w.heap.size+2:=(by rw [←hW1];simp);have held:W1.heap[w.heap.size+1]? = some (.loop (rec .ready none))∧W1.heap[w.heap.size]? = some (.deferred (some [])):=by
  rw [←hW1];refine⟨?_,(Below.heap_alloc _ _ _ (by simp)).trans (World.alloc_heap_new w _)⟩;have:=World.alloc_heap_new (w.alloc (.deferred (some []))) (.loop (rec .ready none))
  rwa [hsz] at this
 have low:Below w.heap.size w W1:=(by rw [←hW1];exact ((Below.refl _ w).alloc (Nat.le_refl _) _).alloc (by simp) _);have start:I [] W1:=(by rw [←hW1];exact hI.alloc _ (hI.alloc _ h0));have wide:∀ {β:Type} {X:β→World→Prop},OwnFrom w.heap.size X→AbidesFrom W1.heap.size X:=fun hX s A B row hs hg hr =>
  hX s A B row hs hg fun r e=>by obtain⟨h,o,ho,hw⟩:=hr r e;exact⟨by omega,o,ho,Obj.not_cells_of_walk hw⟩
 have fast:∀ {A B:World} {row:Option Nat} {b:Nat} {o:Obj},A.grownBy B row→(∀ r,row=some r→W1.heap.size≤r∧∃ o:Obj,A.heap[r]? = some o∧o.isWalk=true)→b<W1.heap.size→A.heap[b]? = some o→B.heap[b]? = some o:=fun {A B row b o} hg hr hb ho =>
  (hg.block b (Array.getElem?_eq_some_iff.1 ho).1 (fun e=>by have:=(hr b e.symm).1;omega)).trans ho
 refine⟨w.heap.size+1,[{ target:=.collected w.heap.size,args:=#[] }],W1,{ target:=.fn (.func gf) lb,args:=#[.func (.yield (w.heap.size+1)) #[] #[]] },W1,gf,#[.func (.yield (w.heap.size+1)) #[] #[]]++lb,W1,?_,?_,?_,?_,fun _=>h1,?_⟩
 ·rw [←hW1,hrec];exact run_enterLoop_outer _ _ _ _ _
 ·simp only [resolve,hg];simp [go_sem]
 ·intro f' hf';simp [Target.leads] at hf';subst hf';exact hFg
 ·simp [invoke,go_sem,eg]
 ·refine (hseq (w.heap.size+1)
   (fun bef W=>(I bef W∧W.heap[w.heap.size+1]? = some (.loop (rec .ready none)))∧W.heap[w.heap.size]? = some (.deferred (some [])))
   (fun bef W=>∃ c,(Ix c bef W∧W.heap[w.heap.size+1]? = some (.loop (rec .done (some c))))∧W.heap[w.heap.size]? = some (.deferred (some [])))
   W1 low
   (fun s A B row hs hg hr=>⟨⟨wide hI s A B row hs.1.1 hg hr,fast hg hr (by omega) hs.1.2⟩,fast hg hr (by omega) hs.2⟩)
   (fun s A B row ⟨c,hs⟩ hg hr=>⟨c,⟨wide (hIx c) s A B row hs.1.1 hg hr,fast hg hr (by omega) hs.1.2⟩,fast hg hr (by omega) hs.2⟩)
   ?_ ⟨⟨start,held.1⟩,held.2⟩).mono ?_
  ·rintro bef x W ⟨⟨hi,hl⟩,hk⟩ hq hlen;have hy:=run_yield (P:=P) (args:=encs x) hl (hp _ _ x);rw [hrec] at hy;refine⟨fn,_,assign,body,hy,roundIn_of_wpIn hfn (wpIn_mono (hround _ bef x W (by omega) hi hq hlen) ?_)⟩;clear hy hi hq hround;rintro e a' Wa ha;cases e with
   | normal =>
    obtain⟨kf,kp,hia,hb⟩:=ha;have hla:=kf.same _ _ (by omega) hl rfl;have hka:=kf.same _ _ (Nat.le_refl _) hk rfl;have hlt:=(Array.getElem?_eq_some_iff.1 hla).1;refine⟨_,run_beginRound hla (by rw [hrec]),?_⟩;have hib:=hI.putObj (.loop { rec .ready none with state:=.busy }) hia (by omega) hla rfl;have hlb:(Wa.putObj (w.heap.size+1) (.loop { rec .ready none with state:=.busy })).heap[w.heap.size+1]? = some (.loop { rec .ready none with state:=.busy }):=World.putObj_heap_same hlt;have hkb:(Wa.putObj (w.heap.size+1) (.loop { rec .ready none with state:=.busy })).heap[w.heap.size]? = some (.deferred (some [])):=(World.putObj_heap_other (by omega)).trans hka;have kpb:=hKt kp (hKb _ _ _ (.loop { rec .ready none with state:=.busy }) (by omega) hla rfl rfl);refine wpIn_mono (hb _ (Near.put hla) hib) ?_;clear hb hib;generalize Wa.putObj (w.heap.size+1) (.loop { rec .ready none with state:=.busy })=Wb at *
    have fin:∀ (jump:Option Code) (W3:World),KeepsFrom w.heap.size Wb W3→∃ W4,(Instr.endRound (w.heap.size+1) jump).run P W3=.ok (.bool jump.isNone) W4 ∧
      W4=W3.putObj (w.heap.size+1) (.loop (rec (if jump.isNone then .ready else .done) jump))∧W3.heap[w.heap.size+1]? = some (.loop { rec .ready none with state:=.busy }) ∧
      W4.heap[w.heap.size+1]? = some (.loop (rec (if jump.isNone then .ready else .done) jump))∧W4.heap[w.heap.size]? = some (.deferred (some [])):=fun jump W3 k3=>by
     have h3:=k3.same _ _ (by omega) hlb rfl;have he:=run_endRound (P:=P) jump h3;refine⟨_,?_,rfl,h3,World.putObj_heap_same (Array.getElem?_eq_some_iff.1 h3).1,(World.putObj_heap_other (by omega)).trans (k3.same _ _ (Nat.le_refl _) hkb rfl)⟩;rw [he,hrec]
    rintro e a3 W3 hq;have leave:∀ (c:Code),KeepsFrom w.heap.size Wb W3∧Kp Wb W3∧Ix c (bef++[x]) W3→∃ v W4,(Instr.endRound (w.heap.size+1) (some c)).run P W3=.ok v W4∧(v=.bool false∧(∃ c,(Ix c (bef++[x]) W4∧W4.heap[w.heap.size+1]? = some (.loop (rec .done (some c))))∧W4.heap[w.heap.size]? = some (.deferred (some [])))∧Kp W W4):=fun c ⟨k3,kp3,i3⟩=>by
     obtain⟨W4,r4,e4,h3,l4,d4⟩:=fin (some c) W3 k3;exact⟨_,W4,r4,rfl,⟨c,⟨by rw [e4];exact (hIx c).putObj _ i3 (by omega) h3 rfl,l4⟩,d4⟩,hKt (hKt kpb kp3) (by rw [e4];exact hKb _ _ _ _ (by omega) h3 rfl rfl)⟩
    cases e with
    | normal =>
     obtain⟨k3,kp3,i3⟩:=hq;obtain⟨W4,r4,e4,h3,l4,d4⟩:=fin none W3 k3;exact⟨_,W4,r4,.inl ⟨rfl,⟨⟨by rw [e4];exact hI.putObj _ i3 (by omega) h3 rfl,l4⟩,d4⟩,hKt (hKt kpb kp3) (by rw [e4];exact hKb _ _ _ _ (by omega) h3 rfl rfl)⟩⟩
    | ret=>obtain⟨v,W4,r4,rfl,h4⟩:=leave .ret hq;exact⟨_,W4,r4,.inr ⟨rfl,h4⟩⟩
    | exit id=>obtain⟨v,W4,r4,rfl,h4⟩:=leave (.exit id) hq;exact⟨_,W4,r4,.inr ⟨rfl,h4⟩⟩
    | goto t=>obtain⟨v,W4,r4,rfl,h4⟩:=leave (.goto t) hq;exact⟨_,W4,r4,.inr ⟨rfl,h4⟩⟩
    | panic ch=>exact hq.elim
    | outgrown=>exact hq.elim
   | _=>exact ha.elim
  ·rintro e W2 ⟨⟨v,rfl⟩,(⟨xs,hS,⟨hi,hl⟩,hk⟩ | ⟨bef,hSp,c,⟨hi,hl⟩,hk⟩)⟩
   ·have hr:=run_endLoop (P:=P) hl (by rw [hrec];simp);exact⟨none,_,by rw [hr,hrec],hdone _ xs _ (Nat.le_refl _) hS (hI.putObj _ hi (by omega) hl rfl) ((World.putObj_heap_other (by omega)).trans hk)⟩
   ·have hr:=run_endLoop (P:=P) hl (by rw [hrec];simp);exact⟨some c,_,by rw [hr,hrec],hstop _ c bef _ (Nat.le_refl _) hSp ((hIx c).putObj _ hi (by omega) hl rfl) ((World.putObj_heap_other (by omega)).trans hk)⟩
end
end ItW
namespace ItW
open Go Go.RowKit LexW LexM ExM ExW ItM
open ClM (Fld)
abbrev iv (kd o n:Int) (en:ByteArray) (a4:Value) (nm ix:ByteArray) (a7 a8 a9 a10 a11:Value):Value :=
 .agg #[.int .i64 kd,.int .i64 o,.int .i64 n,.string en,a4,.string nm,.string ix,a7,a8,a9,a10,a11]
abbrev plv (d mb:Nat):Value:=.agg #[.int .i64 d,.map (some mb)]
def StA (N:Nat) (w:World) (v:Value) (l:List ByteArray):Prop :=
 ∃ p cap,v=.slice p l.length cap∧l.length*16≤140737488351232∧l.length≤cap∧(∀ s∈l,s.size≤140737488351232) ∧
  (0<l.length→∃ b off,p=some ⟨b,off,none⟩∧b<N∧∀ (i:Nat) (s:ByteArray),l[i]? = some s→w.cell? ⟨b,off+i,none⟩=some (.string s))
def WtA (N:Nat) (w:World) (v:Value) (l:List Wt):Prop :=
 ∃ p cap,v=.slice p l.length cap∧l.length*32≤140737488351232∧l.length≤cap ∧
  (0<l.length→∃ b off,p=some ⟨b,off,none⟩∧b<N∧∀ (i:Nat) (t:Wt),l[i]? = some t→w.cell? ⟨b,off+i*4,none⟩=some (.int .i64 t.lo)∧w.cell? ⟨b,off+i*4+1,none⟩=some (.int .i64 t.hi) ∧
   w.cell? ⟨b,off+i*4+2,none⟩=some (.int .i64 t.wt)∧w.cell? ⟨b,off+i*4+3,none⟩=some (.bool t.ea))
structure C12 (w:World) (b o:Nat) (x:It) (V:Nat→Value):Prop where
 c0:w.cell? ⟨b,o,none⟩=some (.int .i64 x.kd)
 c1:w.cell? ⟨b,o+1,none⟩=some (.int .i64 x.e.op)
 c2:w.cell? ⟨b,o+2,none⟩=some (.int .i64 x.e.n)
 c3:w.cell? ⟨b,o+3,none⟩=some (.string x.e.nm)
 c4:w.cell? ⟨b,o+4,none⟩=some (V 4)
 c5:w.cell? ⟨b,o+5,none⟩=some (.string x.nm)
 c6:w.cell? ⟨b,o+6,none⟩=some (.string x.ix)
 c7:w.cell? ⟨b,o+7,none⟩=some (V 7)
 c8:w.cell? ⟨b,o+8,none⟩=some (V 8)
 c9:w.cell? ⟨b,o+9,none⟩=some (V 9)
 c10:w.cell? ⟨b,o+10,none⟩=some (V 10)
 c11:w.cell? ⟨b,o+11,none⟩=some (V 11)
inductive ItsA (N:Nat) (w:World):Value→List It→Prop where
 | mk (p:Option Addr) (cap:Nat) (l:List It) (V:Nat→Nat→Value)
   (hl:l.length*216≤140737488351232) (hc:l.length≤cap)
   (hp:0<l.length→∃ b off,p=some ⟨b,off,none⟩∧b<N∧∀ (i:Nat) (x:It),l[i]? = some x→C12 w b (off+i*12) x (V i))
   (hn:∀ (i:Nat) (x:It),l[i]? = some x→x.nm.size≤140737488351232∧x.ix.size≤140737488351232)
   (he:∀ (i:Nat) (x:It),l[i]? = some x→ExAt N w (xv x.e.op x.e.n x.e.nm (V i 4)) x.e)
   (hw:∀ (i:Nat) (x:It),l[i]? = some x→WtA N w (V i 7) x.ws)
   (hi:∀ (i:Nat) (x:It),l[i]? = some x→ItsA N w (V i 8) x.it)
   (hx:∀ (i:Nat) (x:It),l[i]? = some x→ItsA N w (V i 9) x.el)
   (hb:∀ (i:Nat) (x:It),l[i]? = some x→StA N w (V i 10) x.bf)
   (hf:∀ (i:Nat) (x:It),l[i]? = some x→StA N w (V i 11) x.af):ItsA N w (.slice p l.length cap) l
structure IV (N:Nat) (w:World) (a4 a7 a8 a9 a10 a11:Value) (x:It):Prop where
 nm:x.nm.size≤140737488351232
 ix:x.ix.size≤140737488351232
 ex:ExAt N w (xv x.e.op x.e.n x.e.nm a4) x.e
 wt:WtA N w a7 x.ws
 its:ItsA N w a8 x.it
 els:ItsA N w a9 x.el
 bfs:StA N w a10 x.bf
 afs:StA N w a11 x.af
structure RowI (N:Nat) (w:World) (p:Option Addr) (cap:Nat) (V:Nat→Nat→Value) (l:List It):Prop where
 hl:l.length*216≤140737488351232
 hc:l.length≤cap
 hp:0<l.length→∃ b off,p=some ⟨b,off,none⟩∧b<N∧∀ (i:Nat) (x:It),l[i]? = some x→C12 w b (off+i*12) x (V i)
 hv:∀ (i:Nat) (x:It),l[i]? = some x→IV N w (V i 4) (V i 7) (V i 8) (V i 9) (V i 10) (V i 11) x
theorem ItsA.form {N:Nat} {w:World} {v:Value} {l:List It} (h:ItsA N w v l):∃ p cap V,v=.slice p l.length cap∧RowI N w p cap V l:=by
 cases h with
 | mk p cap _ V hl hc hp hn he hw hi hx hb hf=>exact⟨p,cap,V,rfl,hl,hc,hp,fun i x h=>⟨(hn i x h).1,(hn i x h).2,he i x h,hw i x h,hi i x h,hx i x h,hb i x h,hf i x h⟩⟩
theorem RowI.its {N:Nat} {w:World} {p:Option Addr} {cap:Nat} {V:Nat→Nat→Value} {l:List It} (h:RowI N w p cap V l):ItsA N w (.slice p l.length cap) l :=
 .mk p cap l V h.hl h.hc h.hp (fun i x g=>⟨(h.hv i x g).nm,(h.hv i x g).ix⟩) (fun i x g=>(h.hv i x g).ex) (fun i x g=>(h.hv i x g).wt) (fun i x g=>(h.hv i x g).its) (fun i x g=>(h.hv i x g).els) (fun i x g=>(h.hv i x g).bfs) (fun i x g=>(h.hv i x g).afs)
theorem StA.kept {N N':Nat} {w w':World} (hk:∀ b o,b<N→∀ v,w.cell? ⟨b,o,none⟩=some v→w'.cell? ⟨b,o,none⟩=some v) (hN:N≤N') {v:Value} {l:List ByteArray} (h:StA N w v l):StA N' w' v l:=by
 obtain⟨p,cap,e,h1,h2,h3,h4⟩:=h;exact⟨p,cap,e,h1,h2,h3,fun h0=>by obtain⟨b,off,e,hb,hc⟩:=h4 h0;exact⟨b,off,e,by omega,fun i s hi=>hk _ _ hb _ (hc i s hi)⟩⟩
theorem WtA.kept {N N':Nat} {w w':World} (hk:∀ b o,b<N→∀ v,w.cell? ⟨b,o,none⟩=some v→w'.cell? ⟨b,o,none⟩=some v) (hN:N≤N') {v:Value} {l:List Wt} (h:WtA N w v l):WtA N' w' v l:=by
 obtain⟨p,cap,e,h1,h2,h4⟩:=h;exact⟨p,cap,e,h1,h2,fun h0=>by obtain⟨b,off,e,hb,hc⟩:=h4 h0;exact⟨b,off,e,by omega,fun i s hi=>⟨hk _ _ hb _ (hc i s hi).1,hk _ _ hb _ (hc i s hi).2.1,hk _ _ hb _ (hc i s hi).2.2.1,hk _ _ hb _ (hc i s hi).2.2.2⟩⟩⟩
theorem C12.kept {w w':World} {b o:Nat} {x:It} {V:Nat→Value} (hk:∀ o v,w.cell? ⟨b,o,none⟩=some v→w'.cell? ⟨b,o,none⟩=some v) (h:C12 w b o x V):C12 w' b o x V :=
 ⟨hk _ _ h.c0,hk _ _ h.c1,hk _ _ h.c2,hk _ _ h.c3,hk _ _ h.c4,hk _ _ h.c5,hk _ _ h.c6,hk _ _ h.c7,hk _ _ h.c8,hk _ _ h.c9,hk _ _ h.c10,hk _ _ h.c11⟩
theorem ItsA.kept {N N':Nat} {w w':World} (hk:∀ b o,b<N→∀ v,w.cell? ⟨b,o,none⟩=some v→w'.cell? ⟨b,o,none⟩=some v) (hN:N≤N') {v:Value} {l:List It} (h:ItsA N w v l):ItsA N' w' v l:=by
 induction h with
 | mk p cap l V hl hc hp hn he hw hi hx hb hf ih1 ih2 =>
  refine .mk p cap l V hl hc (fun h0=>?_) hn (fun i x g=>(he i x g).kept hk hN) (fun i x g=>(hw i x g).kept hk hN) ih1 ih2 (fun i x g=>(hb i x g).kept hk hN) (fun i x g=>(hf i x g).kept hk hN);obtain⟨b,off,e,hlt,hcell⟩:=hp h0;exact⟨b,off,e,by omega,fun i x g=>(hcell i x g).kept (fun o v hv=>hk _ _ hlt _ hv)⟩
theorem IV.kept {N N':Nat} {w w':World} (hk:∀ b o,b<N→∀ v,w.cell? ⟨b,o,none⟩=some v→w'.cell? ⟨b,o,none⟩=some v) (hN:N≤N') {a4 a7 a8 a9 a10 a11:Value} {x:It} (h:IV N w a4 a7 a8 a9 a10 a11 x):IV N' w' a4 a7 a8 a9 a10 a11 x :=
 ⟨h.nm,h.ix,h.ex.kept hk hN,h.wt.kept hk hN,h.its.kept hk hN,h.els.kept hk hN,h.bfs.kept hk hN,h.afs.kept hk hN⟩
theorem RowI.kept {N N':Nat} {w w':World} (hk:∀ b o,b<N→∀ v,w.cell? ⟨b,o,none⟩=some v→w'.cell? ⟨b,o,none⟩=some v) (hN:N≤N') {p:Option Addr} {cap:Nat} {V:Nat→Nat→Value} {l:List It} (h:RowI N w p cap V l):RowI N' w' p cap V l :=
 ⟨h.hl,h.hc,fun h0=>by obtain⟨b,off,e,hlt,hc⟩:=h.hp h0;exact⟨b,off,e,by omega,fun i x g=>(hc i x g).kept (fun o v hv=>hk _ _ hlt _ hv)⟩,fun i x g=>(h.hv i x g).kept hk hN⟩
theorem IV.slices {N:Nat} {w:World} {a4 a7 a8 a9 a10 a11:Value} {x:It} (h:IV N w a4 a7 a8 a9 a10 a11 x):∃ p4 k4 p7 k7 p8 k8 p9 k9 p10 k10 p11 k11,
  a4=.slice p4 x.e.args.length k4∧a7=.slice p7 x.ws.length k7∧a8=.slice p8 x.it.length k8∧a9=.slice p9 x.el.length k9∧a10=.slice p10 x.bf.length k10∧a11=.slice p11 x.af.length k11:=by
 obtain⟨p4,k4,_,_,e4,_⟩:=h.ex.form;obtain⟨p7,k7,e7,_⟩:=h.wt;obtain⟨p8,k8,_,e8,_⟩:=h.its.form;obtain⟨p9,k9,_,e9,_⟩:=h.els.form;obtain⟨p10,k10,e10,_⟩:=h.bfs;obtain⟨p11,k11,e11,_⟩:=h.afs;refine⟨p4,k4,p7,k7,p8,k8,p9,k9,p10,k10,p11,k11,?_,e7,e8,e9,e10,e11⟩
 simpa using e4
theorem low_cells {N:Nat} {w w':World} (hb:Below N w w'):∀ b o,b<N→∀ v,w.cell? ⟨b,o,none⟩=some v→w'.cell? ⟨b,o,none⟩=some v:=fun b o hlt _ hv=>(hb.cell (p:=⟨b,o,none⟩) hlt).trans hv
theorem ItsA.under {N:Nat} {w w':World} (hb:Below N w w') {v:Value} {l:List It} (h:ItsA N w v l):ItsA N w' v l:=h.kept (low_cells hb) (Nat.le_refl _)
theorem ItsA.wide {N N':Nat} {w:World} (hN:N≤N') {v:Value} {l:List It} (h:ItsA N w v l):ItsA N' w v l:=h.kept (fun _ _ _ _ hv=>hv) hN
theorem RowI.under {N:Nat} {w w':World} (hb:Below N w w') {p:Option Addr} {cap:Nat} {V:Nat→Nat→Value} {l:List It} (h:RowI N w p cap V l):RowI N w' p cap V l:=h.kept (low_cells hb) (Nat.le_refl _)
theorem IV.under {N:Nat} {w w':World} (hb:Below N w w') {a4 a7 a8 a9 a10 a11:Value} {x:It} (h:IV N w a4 a7 a8 a9 a10 a11 x):IV N w' a4 a7 a8 a9 a10 a11 x:=h.kept (low_cells hb) (Nat.le_refl _)
theorem IV.wide {N N':Nat} {w:World} (hN:N≤N') {a4 a7 a8 a9 a10 a11:Value} {x:It} (h:IV N w a4 a7 a8 a9 a10 a11 x):IV N' w a4 a7 a8 a9 a10 a11 x:=h.kept (fun _ _ _ _ hv=>hv) hN
theorem StA.under {N:Nat} {w w':World} (hb:Below N w w') {v:Value} {l:List ByteArray} (h:StA N w v l):StA N w' v l:=h.kept (low_cells hb) (Nat.le_refl _)
theorem StA.wide {N N':Nat} {w:World} (hN:N≤N') {v:Value} {l:List ByteArray} (h:StA N w v l):StA N' w v l:=h.kept (fun _ _ _ _ hv=>hv) hN
theorem WtA.under {N:Nat} {w w':World} (hb:Below N w w') {v:Value} {l:List Wt} (h:WtA N w v l):WtA N w' v l:=h.kept (low_cells hb) (Nat.le_refl _)
theorem WtA.wide {N N':Nat} {w:World} (hN:N≤N') {v:Value} {l:List Wt} (h:WtA N w v l):WtA N' w v l:=h.kept (fun _ _ _ _ hv=>hv) hN
theorem ItsA.nil (N:Nat) (w:World) (p:Option Addr) (cap:Nat):ItsA N w (.slice p 0 cap) [] :=
 .mk p cap [] (fun _ _=>.bool false) (by simp) (by simp) (fun h=>by simp at h) (fun i x h=>by simp at h) (fun i x h=>by simp at h) (fun i x h=>by simp at h) (fun i x h=>by simp at h) (fun i x h=>by simp at h) (fun i x h=>by simp at h) (fun i x h=>by simp at h)
theorem StA.nil (N:Nat) (w:World) (p:Option Addr) (cap:Nat):StA N w (.slice p 0 cap) []:=⟨p,cap,rfl,by simp,by simp,fun _ h=>(by cases h),fun h=>by simp at h⟩
theorem WtA.nil (N:Nat) (w:World) (p:Option Addr) (cap:Nat):WtA N w (.slice p 0 cap) []:=⟨p,cap,rfl,by simp,by simp,fun h=>by simp at h⟩
def okO:Obj→Prop
 | .cells _ t _=>t≠9
 | .map ..=>True
 | _=>False
theorem okC {cs:Array Value} {t:TypeId} {fr:Nat × Nat} (h:t≠9):okO (.cells cs t fr):=h
structure KeepC (n₀ n₁:Nat) (W W':World):Prop where
 size:W.heap.size≤W'.heap.size
 low:∀ b cs t fr,b<n₀→W.heap[b]? = some (.cells cs t fr)→W'.heap[b]? = some (.cells cs t fr)
 high:∀ b o,n₁≤b→okO o→W.heap[b]? = some o→W'.heap[b]? = some o
theorem KeepC.refl (n₀ n₁:Nat) (W:World):KeepC n₀ n₁ W W:=⟨Nat.le_refl _,fun _ _ _ _ _ h=>h,fun _ _ _ _ h=>h⟩
theorem KeepC.trans {n₀ n₁:Nat} {A B C:World} (h:KeepC n₀ n₁ A B) (k:KeepC n₀ n₁ B C):KeepC n₀ n₁ A C :=
 ⟨Nat.le_trans h.size k.size,fun b cs t fr hb hv=>k.low b cs t fr hb (h.low b cs t fr hb hv),fun b o hb ho hv=>k.high b o hb ho (h.high b o hb ho hv)⟩
theorem KeepC.of_below {n₀ n₁:Nat} {W W':World} (h:Below W.heap.size W W'):KeepC n₀ n₁ W W' :=
 ⟨h.size,fun b _ _ _ _ hv=>(h.block b (Array.getElem?_eq_some_iff.1 hv).1).trans hv,fun b _ _ _ hv=>(h.block b (Array.getElem?_eq_some_iff.1 hv).1).trans hv⟩
theorem KeepC.tree {n₀ n₁:Nat} {W W':World} (h:KeepC n₀ n₁ W W') {b o:Nat} {v:Value} (hb:b<n₀) (hv:W.cell? ⟨b,o,none⟩=some v):W'.cell? ⟨b,o,none⟩=some v:=by
 obtain⟨cs,t,fr,hc⟩:=cell_cells hv;exact (World.cell?_of_block (w:=W) (by rw [h.low b cs t fr hb hc,hc])).trans hv
theorem KeepC.grown {n₀ n₁:Nat} {W W':World} {row:Option Nat} (h:W.grownBy W' row) (hr:∀ b,row=some b→n₀≤b∧(b<n₁∨∀ o,W.heap[b]? = some o→¬ okO o)):KeepC n₀ n₁ W W':=by
 refine⟨h.size,fun b cs t fr hb hv=>?_,fun b o hb ho hv=>?_⟩
 ·exact (h.block b (Array.getElem?_eq_some_iff.1 hv).1 (fun e=>by have:=(hr b e.symm).1;omega)).trans hv
 ·exact (h.block b (Array.getElem?_eq_some_iff.1 hv).1 (fun e=>by
   rcases (hr b e.symm).2 with g | g
   ·omega
   ·exact g o hv ho)).trans hv
theorem KeepC.set {n₀ n₁:Nat} {W W':World} (h:KeepC n₀ n₁ W W') {b:Nat} (h0:n₀≤b) (h1:b<n₁) (v:Value):KeepC n₀ n₁ W (W'.setCell ⟨b,0,none⟩ v) :=
 h.trans (KeepC.grown (grownBy_setCell' W' b v) fun b' e=>by cases e;exact⟨h0,.inl h1⟩)
theorem keepC_t {n₀ n₁:Nat} {A B C:World} (h:KeepC n₀ n₁ A B) (k:KeepC n₀ n₁ B C):KeepC n₀ n₁ A C:=h.trans k
theorem keepC_b {n₀ n₁:Nat} {w:World} (hn:n₀≤w.heap.size) (W:World) (l:Nat) (o o':Obj) (hl:w.heap.size≤l) (h:W.heap[l]? = some o) (hc:o.isCells=false) (hw:o.isWalk=false):KeepC n₀ n₁ W (W.putObj l o') :=
 KeepC.grown (grownBy_putObj' W l o') fun b e=>by
  cases e;refine⟨by omega,.inr fun o2 h2 ho=>?_⟩;rw [h] at h2;cases h2;cases o<;>simp_all [okO,Obj.isCells,Obj.isWalk]
theorem ItsA.keep {n₀ n₁:Nat} {W W':World} (h:KeepC n₀ n₁ W W') {v:Value} {l:List It} (hx:ItsA n₀ W v l):ItsA n₀ W' v l :=
 hx.kept (fun _ _ hb _ hv=>h.tree hb hv) (Nat.le_refl _)
theorem RowI.keep {n₀ n₁:Nat} {W W':World} (h:KeepC n₀ n₁ W W') {p:Option Addr} {cap:Nat} {V:Nat→Nat→Value} {l:List It} (hx:RowI n₀ W p cap V l):RowI n₀ W' p cap V l :=
 hx.kept (fun _ _ hb _ hv=>h.tree hb hv) (Nat.le_refl _)
theorem IV.keep {n₀ n₁:Nat} {W W':World} (h:KeepC n₀ n₁ W W') {a4 a7 a8 a9 a10 a11:Value} {x:It} (hx:IV n₀ W a4 a7 a8 a9 a10 a11 x):IV n₀ W' a4 a7 a8 a9 a10 a11 x :=
 hx.kept (fun _ _ hb _ hv=>h.tree hb hv) (Nat.le_refl _)
def cntB (B:List ByteArray) (t:ByteArray):Int:=((B.filter (fun s=>ClM.same s t)).length:Int)
theorem cntB_cons (s t:ByteArray) (B:List ByteArray):cntB (s::B) t=cntB B t+(if ClM.same s t=true then 1 else 0):=by
 unfold cntB;rw [List.filter_cons];split
 ·simp
 ·simp
theorem cntB_pos (B:List ByteArray) (t:ByteArray):0≤cntB B t∧(cntB B t=0↔memB B t=false):=by
 refine⟨by unfold cntB;omega,?_⟩;unfold cntB memB;rw [List.any_eq_false];constructor
 ·intro h x hx hs;have h0:B.filter (fun s=>ClM.same s t)=[]:=List.length_eq_zero_iff.1 (by omega);have:=List.filter_eq_nil_iff.1 h0 x hx;exact this hs
 ·intro h;have:B.filter (fun s=>ClM.same s t)=[]:=(List.filter_eq_nil_iff.2 fun x hx=>h x hx);rw [this];rfl
theorem cntB_le (B:List ByteArray) (t:ByteArray):cntB B t≤B.length:=by
 unfold cntB;have:=List.length_filter_le (fun s=>ClM.same s t) B;omega
def IntMap (W:World) (mb n:Nat) (f:ByteArray→Int):Prop :=
 ∃ D:DataW Unit,W.ownsMap Tryz.prog 9 (plainElem (H:=Unit) Tryz.prog 3) mb n D∧∀ t:ByteArray,D.atKey (.string t.data.toList) (.lit (.int .i64 0))=.lit (.int .i64 (f t))
theorem IntMap.made (w:World):IntMap (w.alloc (.map #[] 0)) w.heap.size 0 (fun _=>0):=⟨_,World.ownsMap_made w _ _ _,fun t=>by simp [DataW.atKey]⟩
theorem IntMap.mono {W:World} {mb n n':Nat} {f:ByteArray→Int} (h:IntMap W mb n f) (hn:n≤n'):IntMap W mb n' f:=by
 obtain⟨D,h1,h2⟩:=h;exact⟨D,h1.mono hn,h2⟩
theorem IntMap.same {W:World} {mb n:Nat} {f g:ByteArray→Int} (h:IntMap W mb n f) (e:∀ t,f t=g t):IntMap W mb n g:=by
 obtain⟨D,h1,h2⟩:=h;exact⟨D,h1,fun t=>by rw [h2,e]⟩
theorem IntMap.obj {W:World} {mb n:Nat} {f:ByteArray→Int} (h:IntMap W mb n f):∃ es ck,W.heap[mb]? = some (.map es ck):=by
 obtain⟨D,⟨es,ck,hb,_⟩,_⟩:=h;exact⟨es,ck,hb⟩
theorem IntMap.lt {W:World} {mb n:Nat} {f:ByteArray→Int} (h:IntMap W mb n f):mb<W.heap.size:=by
 obtain⟨es,ck,hb⟩:=h.obj;exact (Array.getElem?_eq_some_iff.1 hb).1
theorem IntMap.stay {W W':World} {mb n:Nat} {f:ByteArray→Int} (h:IntMap W mb n f) (hk:∀ o,W.heap[mb]? = some o→okO o→W'.heap[mb]? = some o):IntMap W' mb n f:=by
 obtain⟨D,⟨es,ck,hb,r⟩,h2⟩:=h;exact⟨D,⟨es,ck,hk _ hb trivial,r⟩,h2⟩
theorem IntMap.below {W W':World} {mb n:Nat} {f:ByteArray→Int} (h:IntMap W mb n f) (hb:Below W.heap.size W W'):IntMap W' mb n f :=
 h.stay fun _ ho _=>(hb.block mb h.lt).trans ho
theorem IntMap.keep {W W':World} {n₀ n₁ mb n:Nat} {f:ByteArray→Int} (h:IntMap W mb n f) (hm:n₁≤mb) (hk:KeepC n₀ n₁ W W'):IntMap W' mb n f :=
 h.stay fun o ho ok=>hk.high mb o hm ok ho
theorem IntMap.near {W W':World} {mb n:Nat} {f:ByteArray→Int} (h:IntMap W mb n f) (hk:Near W W'):IntMap W' mb n f :=
 h.stay fun o ho ok=>hk.blk mb o ho fun r e=>by subst e;exact ok
theorem IntMap.setCell {W:World} {mb n b:Nat} {f:ByteArray→Int} (h:IntMap W mb n f) (hb:b≠mb) (v:Value):IntMap (W.setCell ⟨b,0,none⟩ v) mb n f:=by
 obtain⟨D,h1,h2⟩:=h;exact⟨D,h1.setCell (fun e=>hb e.symm) v,h2⟩
theorem IntMap.look {W:World} {mb n:Nat} {f:ByteArray→Int} {T:TypeId} (hT:Tryz.prog.underlying T=some (.map 9 3)) (h:IntMap W mb n f) (t:ByteArray) (ht:t.size≤140737488351232) :
  (Instr.lookup T (.map (some mb)) (.string t) false).run Tryz.prog W=.ok (.int .i64 (f t)) W:=by
 obtain⟨D,h1,h2⟩:=h;obtain⟨c,hr,hc,_⟩:=h1.lookup_int (Maps.string_keyed Tryz.underlying9) hT Tryz.underlying3 (Tryz.zeroValue3 W) (Go.WideMaps.keyOf_string_mk Tryz.underlying9 (Nat.le_trans ht (by decide)));rw [h2] at hc;simp only [DataW.lit.injEq,Lit.int.injEq,true_and] at hc;rw [hr,hc]
theorem bs_eq {a b:ByteArray} (h:a.data.toList=b.data.toList):a=b:=by
 rw [←bs_data a,←bs_data b,h]
theorem hwf (v:Int) (h0:-9223372036854775808≤v) (h1:v≤9223372036854775807):(Lit.int .i64 v).wf=true:=by
 unfold Lit.wf;simp only [IntKind.min,IntKind.max,Bool.and_eq_true];exact⟨decide_eq_true h0,decide_eq_true h1⟩
theorem IntMap.put {W:World} {mb n:Nat} {f:ByteArray→Int} {T:TypeId} (hT:Tryz.prog.underlying T=some (.map 9 3)) (h:IntMap W mb n f) (hn:n≤1000000) (s:ByteArray) (hs:s.size≤140737488351232) (v:Int) (h0:-9223372036854775808≤v) (h1:v≤9223372036854775807) :
  ∃ W',(Instr.mapUpdate T (.map (some mb)) (.string s) (.int .i64 v)).run Tryz.prog W=.ok () W'∧IntMap W' mb (n+1) (fun t=>if ClM.same s t=true then v else f t)∧W.grownBy W' (some mb):=by
 obtain⟨D,g1,g2⟩:=h;obtain⟨W',hr,ho,hg⟩:=g1.update (Maps.string_keyed Tryz.underlying9) hT (Nat.lt_of_le_of_lt hn (by decide)) (Go.WideMaps.keyOf_string_mk Tryz.underlying9 (Nat.le_trans hs (by decide))) (plainElem_int Tryz.underlying3 (a:=v) (hwf v h0 h1));refine⟨W',hr,⟨_,ho,fun t=>?_⟩,hg⟩;have hm:=g1.isMap;show (D.put (.string s.data.toList) (.lit (.int .i64 v))).atKey (.string t.data.toList) (.lit (.int .i64 0))=.lit (.int .i64 (if ClM.same s t=true then v else f t));by_cases e:ClM.same s t=true
 ·have e2:s.data.toList=t.data.toList:=(by simpa [ClM.same] using e);rw [if_pos e,←e2,Maps.atKey_put_same hm (by simp [WideAt.IsKeyLit])]
 ·rw [if_neg e,Maps.atKey_put_other (by
   intro x;simp only [Lit.string.injEq] at x;exact e (by simpa [ClM.same] using x.symm)),g2]
end ItW
namespace ExW
open Go Go.RowKit NumM LexW LexM ExM
def SigsAt (w:World) (v:Value) (env:Env):Prop :=
 ∃ p cap,v=.slice p env.length cap∧env.length≤140737488351232∧env.length≤cap∧(0<env.length→∃ b off,p=some ⟨b,off,none⟩∧b<w.heap.size∧∀ i x,env[i]? = some x →
  w.cell? ⟨b,off+i*2,none⟩=some (.string x.1)∧w.cell? ⟨b,off+i*2+1,none⟩=some (.int .i64 x.2))
theorem SigsAt.later {w w':World} {v:Value} {env:Env} (h:SigsAt w v env) (hb:Below w.heap.size w w'):SigsAt w' v env:=by
 obtain⟨p,cap,rfl,hl,hc,hx⟩:=h;refine⟨p,cap,rfl,hl,hc,fun h0=>?_⟩;obtain⟨b,off,hp,hbs,hcell⟩:=hx h0;refine⟨b,off,hp,Nat.lt_of_lt_of_le hbs hb.size,fun i t hi=>?_⟩;rw [hb.cell hbs,hb.cell hbs];exact hcell i t hi
theorem SigsAt.nil (w:World):SigsAt w (.slice none 0 0) []:=⟨none,0,rfl,by simp,by simp,fun h=>by simp at h⟩
theorem elm_data (a:ByteArray) (i:Nat):(elmN a i).data.toList=a.data.toList++[91,UInt8.ofNat (48+i),93]:=rfl
theorem elm_cat (a d:ByteArray) (i:Nat) (h:d.data.toList=[UInt8.ofNat (48+i)]):((a++⟨#[91]⟩)++d)++⟨#[93]⟩=elmN a i:=by
 apply bs_inj;rw [elm_data];simp [ByteArray.data_append,h]
structure IntsAt (w:World) (b off:Nat) (l:List Int):Prop where
 lt:b<w.heap.size
 cell:∀ i v,l[i]? = some v→w.cell? ⟨b,off+i,none⟩=some (.int .i64 v)
theorem IntsAt.later {w w':World} {b off:Nat} {l:List Int} (h:IntsAt w b off l) (hb:Below w.heap.size w w'):IntsAt w' b off l :=
 ⟨Nat.lt_of_lt_of_le h.lt hb.size,fun i v hi=>(hb.cell (p:=⟨b,off+i,none⟩) h.lt).trans (h.cell i v hi)⟩
theorem IntsAt.tail {w:World} {b off:Nat} {a:Int} {l:List Int} (h:IntsAt w b off (a::l)):IntsAt w b (off+1) l :=
 ⟨h.lt,fun i v hi=>by have:=h.cell (i+1) v (by simpa using hi);rwa [show off+(i+1)=off+1+i by omega] at this⟩
inductive ExS (S:Nat→Prop) (w:World):Value→Ex→Prop where
 | mk {o n:Int} {s:ByteArray} {ks:List Ex} {p:Option Addr} {cap:Nat} (pl:Nat→Option Addr) (cl:Nat→Nat)
   (hs:s.size≤140737488351232) (hl:ks.length≤140737488351232) (hc:ks.length≤cap)
   (hp:0<ks.length→∃ b off,p=some ⟨b,off,none⟩∧S b∧∀ i a,ks[i]? = some a →
    w.cell? ⟨b,off+i*4,none⟩=some (.int .i64 a.op)∧w.cell? ⟨b,off+i*4+1,none⟩=some (.int .i64 a.n)∧w.cell? ⟨b,off+i*4+2,none⟩=some (.string a.nm)∧w.cell? ⟨b,off+i*4+3,none⟩=some (.slice (pl i) a.args.length (cl i)))
   (hx:∀ i a,ks[i]? = some a→ExS S w (xv a.op a.n a.nm (.slice (pl i) a.args.length (cl i))) a) :
   ExS S w (xv o n s (.slice p ks.length cap)) (.mk o n s ks)
theorem ExS.toAt {S:Nat→Prop} {w:World} {N:Nat} (hS:∀ b,S b→b<N) {v:Value} {e:Ex} (h:ExS S w v e):ExAt N w v e:=by
 induction h with
 | mk pl cl hs hl hc hp hx ih =>
  refine .mk pl cl hs hl hc (fun h0=>?_) (fun i a hi=>ih i a hi);obtain⟨b,off,e,hb,hcell⟩:=hp h0;exact⟨b,off,e,hS b hb,hcell⟩
theorem ExS.kept {S S':Nat→Prop} {w w':World} (hS:∀ b,S b→S' b) (hk:∀ b o,S b→∀ v,w.cell? ⟨b,o,none⟩=some v→w'.cell? ⟨b,o,none⟩=some v) {v:Value} {e:Ex} (h:ExS S w v e):ExS S' w' v e:=by
 induction h with
 | mk pl cl hs hl hc hp hx ih =>
  refine .mk pl cl hs hl hc (fun h0=>?_) (fun i a hi=>ih i a hi);obtain⟨b,off,e,hb,hcell⟩:=hp h0;exact⟨b,off,e,hS b hb,fun i a hi=>⟨hk _ _ hb _ (hcell i a hi).1,hk _ _ hb _ (hcell i a hi).2.1,hk _ _ hb _ (hcell i a hi).2.2.1,hk _ _ hb _ (hcell i a hi).2.2.2⟩⟩
theorem ExS.form {S:Nat→Prop} {w:World} {v:Value} {e:Ex} (h:ExS S w v e):∃ p cap,v=xv e.op e.n e.nm (.slice p e.args.length cap)∧e.nm.size≤140737488351232∧e.args.length≤cap:=by
 cases h with
 | mk pl cl hs hl hc hp hx=>exact⟨_,_,rfl,hs,hc⟩
abbrev Fr (lo:Nat) (w:World) (v:Value) (e:Ex):Prop:=ExS (fun b=>lo≤b∧b<w.heap.size) w v e
theorem Fr.at_ {lo:Nat} {w:World} {v:Value} {e:Ex} (h:Fr lo w v e):ExAt w.heap.size w v e:=h.toAt (fun _ hb=>hb.2)
theorem Fr.later {lo:Nat} {w w':World} {v:Value} {e:Ex} (h:Fr lo w v e) (hb:Below w.heap.size w w'):Fr lo w' v e :=
 h.kept (fun _ g=>⟨g.1,Nat.lt_of_lt_of_le g.2 hb.size⟩) (fun _ o g _ hv=>(hb.cell (p:=⟨_,o,none⟩) g.2).trans hv)
theorem Fr.low {lo lo':Nat} {w:World} {v:Value} {e:Ex} (h:Fr lo w v e) (hl:lo'≤lo):Fr lo' w v e :=
 h.kept (fun _ g=>⟨Nat.le_trans hl g.1,g.2⟩) (fun _ _ _ _ hv=>hv)
theorem Fr.set {lo g o:Nat} {w:World} {u v:Value} {e:Ex} (h:Fr lo w v e) (hg:g<lo):Fr lo (w.setCell ⟨g,o,none⟩ u) v e :=
 h.kept (fun _ q=>⟨q.1,by rw [setCell_size];exact q.2⟩) (fun b _ q _ hv=>by
  rw [World.cell?_setCell_other _ _ _ _ (fun e=>by have:=congrArg Addr.block e;simp at this;omega)];exact hv)
def cellR (a:Ex) (p:Option Addr) (c:Nat):Nat→Value
 | 0=>.int .i64 a.op
 | 1=>.int .i64 a.n
 | 2=>.string a.nm
 | _=>.slice p a.args.length c
structure RowAt (w:World) (g K:Nat) (F:Nat→Nat→Value):Prop where
 lt:g<w.heap.size
 cell:∀ a r,a<K→r<4→w.cell? ⟨g,a*4+r,none⟩=some (F a r)
 frz:∀ o,w.frozen? ⟨g,o,none⟩=false
theorem RowAt.stay {w w':World} {g K:Nat} {F:Nat→Nat→Value} (h:RowAt w g K F) (hb:Below w.heap.size w w'):RowAt w' g K F :=
 ⟨Nat.lt_of_lt_of_le h.lt hb.size,fun a r ha hr=>(hb.cell (p:=⟨g,a*4+r,none⟩) h.lt).trans (h.cell a r ha hr),fun o=>(hb.frozen (p:=⟨g,o,none⟩) h.lt).trans (h.frz o)⟩
theorem RowAt.alloc {w:World} {g K:Nat} {F:Nat→Nat→Value} (h:RowAt w g K F) (o:Obj):RowAt (w.alloc o) g K F:=h.stay ((Below.refl _ _).alloc (Nat.le_refl _) _)
theorem RowAt.put {w:World} {g K:Nat} {F:Nat→Nat→Value} (h:RowAt w g K F) {i:Nat} (hi:i<K) (y0 y1 y2 y3:Value) :
  RowAt ((((w.setCell ⟨g,i*4,none⟩ y0).setCell ⟨g,i*4+1,none⟩ y1).setCell ⟨g,i*4+2,none⟩ y2).setCell ⟨g,i*4+3,none⟩ y3) g K (fun a r=>if a=i then (match r with | 0=>y0 | 1=>y1 | 2=>y2 | _=>y3) else F a r):=by
 have far:∀ (w:World) (v:Value) {p q:Nat},p≠q→(w.setCell ⟨g,p,none⟩ v).cell? ⟨g,q,none⟩=w.cell? ⟨g,q,none⟩:=(fun w v p q hn=>other w v hn);refine⟨by simp only [setCell_size];exact h.lt,fun a r ha hr=>?_,fun o=>by simp only [World.frozen?_setCell];exact h.frz o⟩;have c0:=h.cell i 0 hi (by omega);have c1:=h.cell i 1 hi (by omega);have c2:=h.cell i 2 hi (by omega);have c3:=h.cell i 3 hi (by omega);by_cases e:a=i
 ·subst e;simp only [if_true];match r,hr with
  | 0,_=>rw [far _ _ (by omega),far _ _ (by omega),far _ _ (by omega)];exact cell_set c0
  | 1,_=>rw [far _ _ (by omega),far _ _ (by omega)];exact cell_set (by rw [far _ _ (by omega)];exact c1)
  | 2,_=>rw [far _ _ (by omega)];exact cell_set (by rw [far _ _ (by omega),far _ _ (by omega)];exact c2)
  | 3,_=>exact cell_set (by rw [far _ _ (by omega),far _ _ (by omega),far _ _ (by omega)];exact c3)
 ·simp only [if_neg e];rw [far _ _ (by omega),far _ _ (by omega),far _ _ (by omega),far _ _ (by omega)];exact h.cell a r ha hr
theorem below_put4 {w0 w:World} {g:Nat} (h:Below w0.heap.size w0 w) (hg:w0.heap.size≤g) (i:Nat) (y0 y1 y2 y3:Value) :
  Below w0.heap.size w0 ((((w.setCell ⟨g,i*4,none⟩ y0).setCell ⟨g,i*4+1,none⟩ y1).setCell ⟨g,i*4+2,none⟩ y2).setCell ⟨g,i*4+3,none⟩ y3) :=
 (((h.setCell hg _).setCell hg _).setCell hg _).setCell hg _
def exCells (pl:Nat→Option Addr) (cl:Nat→Nat):Nat→List Ex→List Value
 | _,[]=>[]
 | i,a::r=>[.int .i64 a.op,.int .i64 a.n,.string a.nm,.slice (pl i) a.args.length (cl i)]++exCells pl cl (i+1) r
theorem exCells_len (pl:Nat→Option Addr) (cl:Nat→Nat):∀ (ks:List Ex) (i:Nat),(exCells pl cl i ks).length=ks.length*4
 | [],_=>rfl
 | a::r,i=>by rw [exCells,List.length_append,exCells_len pl cl r (i+1)];simp;omega
theorem exCells_at (pl:Nat→Option Addr) (cl:Nat→Nat):∀ (ks:List Ex) (i j r:Nat) (a:Ex),ks[j]? = some a→r<4→(exCells pl cl i ks)[j*4+r]? = some (cellR a (pl (i+j)) (cl (i+j)) r)
 | [],i,j,r,a,h,_=>by simp at h
 | b::q,i,0,r,a,h,hr=>by
  obtain rfl:b=a:=(by simpa using h);rw [exCells];match r,hr with
  | 0,_=>rfl
  | 1,_=>rfl
  | 2,_=>rfl
  | 3,_=>rfl
 | b::q,i,j+1,r,a,h,hr=>by
  rw [exCells,List.getElem?_append_right (by simp;omega)];have ih:=exCells_at pl cl q (i+1) j r a (by simpa using h) hr;rw [show i+1+j=i+(j+1) by omega] at ih;rw [←ih]
  congr 1
  simp;omega
theorem exCells_one (pl:Nat→Option Addr) (cl:Nat→Nat):∀ (ks:List Ex) (i:Nat),∀ u∈exCells pl cl i ks,u.oneCell'=true
 | [],_,u,h=>by simp [exCells] at h
 | a::r,i,u,h=>by
  rw [exCells,List.mem_append] at h;rcases h with h | h
  ·simp only [List.mem_cons,List.not_mem_nil,or_false] at h;rcases h with rfl | rfl | rfl | rfl<;>rfl
  ·exact exCells_one pl cl r (i+1) u h
theorem infoE:(Tryz.prog.info? 43).map (fun i=>(i.zero,i.size,i.bytes))=some (some (.agg #[.int .i64 0,.int .i64 0,.string ⟨#[]⟩,.slice none 0 0]),4,56):=by kernel_rfl
def origF (pl:Nat→Option Addr) (cl:Nat→Nat) (ks:List Ex) (a r:Nat):Value:=match ks[a]? with | some x=>cellR x (pl a) (cl a) r | none=>.int .i64 0
theorem orig_at {pl:Nat→Option Addr} {cl:Nat→Nat} {ks:List Ex} {a r:Nat} {x:Ex} (h:ks[a]? = some x):origF pl cl ks a r=cellR x (pl a) (cl a) r:=by unfold origF;rw [h]
theorem row_of_own {w:World} {B K:Nat} {v:Value} {pl:Nat→Option Addr} {cl:Nat→Nat} {ks:List Ex} (h:w.ownsRow B 43 4 v K (exCells pl cl 0 ks)) (hK:ks.length=K) :
  ∃ p' cap',v=.slice p' K cap'∧K≤cap'∧(0<K→∃ g,p'=some ⟨g,0,none⟩∧B≤g∧RowAt w g K (origF pl cl ks)):=by
 obtain⟨_,⟨hv,hn⟩ | ⟨g,cap,cur,hv,hB,hg,hle,_,_,htake⟩⟩:=h
 ·exact⟨none,0,by rw [hv,hn],by omega,fun x=>by omega⟩
 ·refine⟨some ⟨g,0,none⟩,cap,hv,hle,fun _=>⟨g,rfl,hB,(Array.getElem?_eq_some_iff.1 hg).1,fun a r ha hr=>?_,fun o=>by simp [World.frozen?,hg]⟩⟩;obtain⟨x,hx⟩:∃ x,ks[a]? = some x:=⟨_,List.getElem?_eq_getElem (by omega)⟩;rw [orig_at hx,cell_of_row w g _ cur 43 (0,0) hg];have q:=exCells_at pl cl ks 0 a r x hx hr;rw [Nat.zero_add] at q;rw [←q,←htake,List.getElem?_take,if_pos (by omega)];simp
def tClone (K:Nat) (F:Nat→Nat→Value) (w:World) (e:Ending) (w':World):Prop :=
 ∃ p' cap',e=.returned (.slice p' K cap')∧K≤cap'∧Below w.heap.size w w'∧(0<K→∃ g,p'=some ⟨g,0,none⟩∧w.heap.size≤g∧RowAt w' g K F)
theorem sliceClone_any (ks:List Ex) (pl:Nat→Option Addr) (cl:Nat→Nat) (p:Option Addr) (cap:Nat) (w:World) (N:Nat) (ha:ArgsAt N w p cap pl cl ks) (hn:N≤w.heap.size) (hk:ks.length≤10000) :
  Calls Tryz.prog 137 #[.slice p ks.length cap] w (tClone ks.length (origF pl cl ks) w):=by
 obtain⟨i0,hi,hz0,hz1,hz2⟩:=info_parts infoE;obtain⟨K,hK⟩:∃ K,ks.length=K:=⟨_,rfl⟩;have HK:=Lh hK;have HA:=Lh ha;rw [hK] at hk ⊢;clear hK ha;cases p with
 | none =>
  have hK0:K=0:=by
   rcases Nat.eq_zero_or_pos K with h | h
   ·exact h
   ·obtain⟨b,off,e,_⟩:=HA.out.hp (by rw [HK.out];exact h);cases e
  have HK0:=Lh hK0;have he:∀ W,(binOp .eql 41 (.slice none K cap) (.slice none 0 0)).run Tryz.prog W=.ok (.bool true) W:=(fun _=>rfl);clear hK0
  go_enter Tryz.func137,Tryz.ntmps137
  go_wp2;go_ret;exact⟨none,0,by rw [HK0.out];rfl,by rw [HK0.out];omega,Below.refl _ _,fun h=>by rw [HK0.out] at h;omega⟩
 | some ad =>
  have HC:Hid (∀ j u,(exCells pl cl 0 ks)[j]? = some u→w.cell? (ad.add j)=some u):=Lh (by
   intro j u hu;have hj:=(List.getElem?_eq_some_iff.1 hu).1;rw [exCells_len] at hj;obtain⟨b,off,e,hb,hcell⟩:=HA.out.hp (by omega);cases e;obtain⟨x,hx⟩:∃ x,ks[j / 4]? = some x:=⟨_,List.getElem?_eq_getElem (by omega)⟩;have q:=exCells_at pl cl ks 0 (j / 4) (j % 4) x hx (by omega);rw [show j / 4*4+j % 4=j by omega,hu,Nat.zero_add] at q;obtain⟨c0,c1,c2,c3⟩:=hcell _ _ hx;have ea:(⟨b,off,none⟩:Addr).add j=⟨b,off+j / 4*4+j % 4,none⟩:=by
    unfold Addr.add;by_cases h0:j=0
    ·subst h0;simp
    ·simp [h0];omega
   rw [ea,q];have hr:j % 4<4:=(by omega);generalize j % 4=r at *
   match r,hr with
   | 0,_=>exact c0
   | 1,_=>exact c1
   | 2,_=>exact c2
   | 3,_=>exact c3)
  have HB1:Hid (Below w.heap.size w (w.alloc (.cells #[] 43))):=Lh ((Below.refl _ _).alloc (Nat.le_refl _) _);have HO:Hid ((w.alloc (.cells #[] 43)).ownsRow w.heap.size 43 4 (.slice (some ⟨w.heap.size,0,none⟩) 0 0) 0 []):=Lh ⟨rfl,.inr ⟨w.heap.size,0,#[],rfl,Nat.le_refl _,heap_alloc_new _ _,Nat.le_refl _,Nat.zero_le _,rfl,rfl⟩⟩;have HL:=Lh (exCells_len pl cl ks 0);have HOne:=Lh (exCells_one pl cl ks 0);have he:∀ W,(binOp .eql 41 (.slice (some ad) K cap) (.slice none 0 0)).run Tryz.prog W=.ok (.bool false) W:=(fun _=>rfl);have HAL:Hid (∀ j,j<K*4→(ad.add j).block<w.heap.size):=Lh (by
   intro j hj;obtain⟨b,off,e,hb,_⟩:=HA.out.hp (by rw [HK.out];omega);cases e;have:((⟨b,off,none⟩:Addr).add j).block=b:=(by unfold Addr.add;split<;>rfl);rw [this];omega)
  go_enter Tryz.func137,Tryz.ntmps137
  go_wp2_with (at_builtin;go_loud (refine wpList_append_own _ rfl _ _ 41 rfl w.heap.size 43 i0 (.agg #[.int .i64 0,.int .i64 0,.string ⟨#[]⟩,.slice none 0 0]) 4 56 Tryz.underlying41 hi hz0 hz1 hz2 rfl (by decide) _ 0 [] rfl HO.out ad K cap (exCells pl cl 0 ks) rfl (by rw [HL.out,HK.out]) (fun j u hu=>(HB1.out.cell (p:=ad.add j) (HAL.out j (by have:=(List.getElem?_eq_some_iff.1 hu).1;rw [HL.out,HK.out] at this;exact this))).trans (HC.out j u hu)) HOne.out (by unfold maxLen;omega) (by omega) (by simp) ?_);go_loud (intro v' w2 hown' hgrow _;have HO2:=Lh hown';have HG2:=Lh hgrow;clear hown' hgrow))
  go_ret;have HB2:Below w.heap.size w w2:=HB1.out.grown HG2.out (by simp) (fun k e=>Nat.le_of_eq (by have e':(Value.slice (some ⟨w.heap.size,0,none⟩) 0 0).ownBlock=some k:=e;simpa [Value.ownBlock] using e'));have hown':=HO2.out;rw [Nat.zero_add,List.nil_append] at hown';obtain⟨p',cap',rfl,hcp,hrow⟩:=row_of_own hown' HK.out;exact⟨p',cap',rfl,hcp,HB2,hrow⟩
end ExW
namespace ExW
open Go Go.RowKit Go.Shelf NumM LexW LexM ExM
attribute [local go_sem] Oper.semAt_some
def nmD (l:List ByteArray):DataW Unit:=l.foldl (fun D s=>D.put (.string s.data.toList) (.lit (.bool true))) (.map [])
theorem nmD_snoc (l:List ByteArray) (s:ByteArray):nmD (l++[s])=(nmD l).put (.string s.data.toList) (.lit (.bool true)):=by
 unfold nmD;rw [List.foldl_append];rfl
theorem infoS:(Tryz.prog.info? 9).map (fun i=>(i.zero,i.size,i.bytes))=some (some (.string ⟨#[]⟩),1,16):=by kernel_rfl
structure NmI (w:World) (fv:Value) (l:List ByteArray) (n:Nat) (W0 W:World):Prop where
 list:∃ v,Boxed W (w.heap.size+2) 27 v∧W.ownsRow w.heap.size 9 1 v l.length (l.map Value.string)
 fn:Boxed W (w.heap.size+1) 88 fv
 mp:Boxed W (w.heap.size+4) 67 (.map (some (w.heap.size+3)))
 map:W.ownsMap Tryz.prog 9 (plainElem (H:=Unit) Tryz.prog 4) (w.heap.size+3) n (nmD l)
 low:Below w.heap.size W0 W
theorem boxed_kept {W W':World} {B:Nat} {t:TypeId} {v:Value} {row:Option Nat} (h:Boxed W B t v) (hg:W.grownBy W' row) (hr:∀ r,row=some r→∃ o:Obj,W.heap[r]? = some o∧o.isCells=false):Boxed W' B t v :=
 h.kept hg (fun e'=>by obtain⟨o,ho,hc⟩:=hr B e'.symm;rw [show W.heap[B]? = _ from h] at ho;cases ho;cases hc)
theorem NmI.kept {w W0 W W':World} {fv:Value} {l:List ByteArray} {n:Nat} {row:Option Nat} (h:NmI w fv l n W0 W) (hz:w.heap.size+5<W0.heap.size) (hg:W.grownBy W' row) (hr:∀ r,row=some r→W0.heap.size≤r∧∃ o:Obj,W.heap[r]? = some o∧o.isCells=false):NmI w fv l n W0 W':=by
 obtain⟨⟨v,h1,h2⟩,h3,h4,h5,h6⟩:=h;have hr2:=(fun r e=>(hr r e).2);obtain⟨v',q1,q2,_⟩:=holdsRow_own w.heap.size (w.heap.size+2) 27 9 1 (fun l:List ByteArray=>l.length) (fun l=>l.map Value.string) (fun _ _=>True) l W W' row ⟨v,h1,h2,trivial⟩ hg hr2;refine⟨⟨v',q1,q2⟩,boxed_kept h3 hg hr2,boxed_kept h4 hg hr2,h5.kept hg (fun e=>by have:=(hr _ e.symm).1;omega),h6.grown hg (by have:=h6.size;omega) (fun k e=>by have:=(hr k e).1;omega)⟩
end ExW
end Go.Proofs.YtpejflgdehioaaaGreatDoor
