/-
  Laws that the card uses; no conditions beside those that each states (ItRange ItMem CtPage CtLine ExSameR ItBlk CtWord).
-/
import Derived.Maps.OwnIn
import Derived.Maps.AppendAt
import Derived.Maps.OwnSet
import Derived.Maps.Views
import Derived.Shelf.Strings.OnBuilder
import Derived.Deep.RegionLaw
import Derived.Deep.RegionWith
import Derived.Deep.DeepCutAuto
import Derived.Lib.ItoaLen
import Derived.Test.YtihnejaopejbgaaGreatDoorP10
import Derived.Test.YtihnejaopejbgaaGreatDoorP11
set_option maxRecDepth 100000
set_option maxHeartbeats 16000000
namespace Go.Proofs.YtihnejaopejbgaaGreatDoor
namespace ItW
open Go Go.RowKit ExW
def Tells {α:Type} (F:Fence) (n:Nat) (P:Program) (g:Nat) (lb:Array Value) (encs:α→Array Value) (Kp:World→World→Prop) (S Sp:List α→Prop) (N:Nat) (Q:α→World→Prop) (w:World):Prop :=
 ∀ (l:Nat) (J Jx:List α→World→Prop) (W:World),Below w.heap.size w W→AbidesFrom W.heap.size J→AbidesFrom W.heap.size Jx →
  (∀ bef x A,J bef A→Q x A→bef.length<N→YieldAt F (n - 1) P l (encs x) A fun e B =>
   (e=.returned (.bool true)∧J (bef++[x]) B∧Kp A B)∨(e=.returned (.bool false)∧Jx (bef++[x]) B∧Kp A B)) →
  J [] W→CallsIn F n P g (#[.func (.yield l) #[] #[]]++lb) W fun e B=>(∃ v,e=.returned v)∧((∃ xs,S xs∧J xs B)∨(∃ bef,Sp bef∧Jx bef B))
structure Near (A B:World):Prop where
 size:B.heap.size=A.heap.size
 blk:∀ (b:Nat) (o:Obj),A.heap[b]? = some o→(∀ r,o≠.loop r)→B.heap[b]? = some o
theorem Near.put {A:World} {l:Nat} {r r':Loop} (h:A.heap[l]? = some (.loop r)):Near A (A.putObj l (.loop r')):=by
 refine⟨by simp,fun b o hb hn=>?_⟩;have:b≠l:=(fun e=>by subst e;rw [h] at hb;cases hb;exact hn r rfl);exact (World.putObj_heap_other this).trans hb
theorem Near.cell {A B:World} (h:Near A B) {b o:Nat} {v:Value} (hv:A.cell? ⟨b,o,none⟩=some v):B.cell? ⟨b,o,none⟩=some v:=by
 obtain⟨cs,t,fr,hc⟩:=cell_cells hv;exact (World.cell?_of_block (w:=A) (by rw [h.blk b _ hc (fun r e=>by cases e),hc])).trans hv
def leftT {α:Type} (B:Nat) (Kp:World→World→Prop) (I:List α→World→Prop) (Ix:Code→List α→World→Prop) (xs:List α) (W:World):Exit→Act→World→Prop
 | .normal,_,W'=>KeepsFrom B W W'∧Kp W W'∧I xs W'
 | .ret,_,W'=>KeepsFrom B W W'∧Kp W W'∧Ix .ret xs W'
 | .exit id,_,W'=>KeepsFrom B W W'∧Kp W W'∧Ix (.exit id) xs W'
 | .goto t,_,W'=>KeepsFrom B W W'∧Kp W W'∧Ix (.goto t) xs W'
 | .panic _,_,_=>False
 | .outgrown,_,_=>False
section
variable {F:Fence} {n:Nat} {P:Program}
theorem range_tells {α:Type} {g:Operand} {ps:Array Tmp} {assign body:Code} {Q:Exit→Act→World→Prop} {a:Act} {w:World}
  (hro:F.round=none) (h1:1≤n) {gf:Nat} {lb:Array Value} (hg:a.eval g=.func (.func gf) #[] lb) (hFg:F.fn gf) (eg:∀ args w,(callFunc gf args).run P w=.ok (.enter gf args) w)
  {encs:α→Array Value} {Kp:World→World→Prop} {S Sp:List α→Prop} {N:Nat} {R:α→World→Prop} (hseq:Tells F (n - 1) P gf lb encs Kp S Sp N R w)
  (hKt:∀ {A B C:World},Kp A B→Kp B C→Kp A C) (hKb:∀ (W:World) (l:Nat) (o o':Obj),w.heap.size≤l→W.heap[l]? = some o→o.isCells=false→o.isWalk=false→Kp W (W.putObj l o')) (hps:∀ x,(encs x).size=ps.size)
  (I:List α→World→Prop) (Ix:Code→List α→World→Prop) (hI:OwnFrom w.heap.size I) (hIx:∀ c,OwnFrom w.heap.size (Ix c)) (h0:I [] w)
  (hround:∀ (l:Nat) (bef:List α) (x:α) (W:World),w.heap.size≤l→I bef W→R x W→bef.length<N →
   assign.wpIn (F.inRound l) (n - 1 - 1) P (Exit.then (fun a' Wa=>KeepsFrom w.heap.size W Wa∧Kp W Wa∧I bef Wa ∧
    ∀ Wb,Near Wa Wb→I bef Wb→body.wpIn (F.inRound l) (n - 1 - 1) P (leftT w.heap.size Kp I Ix (bef++[x]) Wb) a' Wb) (fun _ _ _=>False))
    { tmps:=(ps.zip (encs x)).foldl (fun t (p,v)=>t.setIfInBounds p v) a.tmps,defers:=[] } W)
  (hdone:∀ (D:Nat) (xs:List α) (W:World),w.heap.size≤D→S xs→I xs W→W.heap[D]? = some (.deferred (some []))→Q .normal { a with defers:={ target:=.collected D,args:=#[] }::a.defers } W)
  (hstop:∀ (D:Nat) (c:Code) (bef:List α) (W:World),w.heap.size≤D→Sp bef→Ix c bef W→W.heap[D]? = some (.deferred (some []))→c.wpIn F n P Q { a with defers:={ target:=.collected D,args:=#[] }::a.defers } W) :
  (Code.rangeFunc g ps assign body).wpIn F n P Q a w:=by
 refine (wpIn_rangeFunc fun fn hfn=>?_);rw [hro]
 -- The record of the loop,and the world in which the iterator is called.
 obtain⟨rec,hrec⟩:∃ rec:LoopState→Option Code→Loop,rec=fun st pe=>{ state:=st,pending:=pe,fn,tmps:=a.tmps,params:=ps,assign,body,defers:=w.heap.size }:=⟨_,rfl⟩
 have hp:∀ st pe x,(encs x).size=(rec st pe).params.size:=(fun st pe x=>by rw [hrec];exact hps x);have hsz:(w.alloc (.deferred (some []))).heap.size=w.heap.size+1:=(by simp);obtain⟨W1,hW1⟩:∃ W1,(w.alloc (.deferred (some []))).alloc (.loop (rec .ready none))=W1:=⟨_,rfl⟩;have hz1:W1.heap.size=w.heap.size+2:=(by rw [←hW1];simp);have held:W1.heap[w.heap.size+1]? = some (.loop (rec .ready none))∧W1.heap[w.heap.size]? = some (.deferred (some [])):=by
  rw [←hW1];refine⟨?_,(Below.heap_alloc _ _ _ (by simp)).trans (World.alloc_heap_new w _)⟩;have:=World.alloc_heap_new (w.alloc (.deferred (some []))) (.loop (rec .ready none))
  rwa [hsz] at this
 have low:Below w.heap.size w W1:=(by rw [←hW1];exact ((Below.refl _ w).alloc (Nat.le_refl _) _).alloc (by simp) _);have start:I [] W1:=(by rw [←hW1];exact hI.alloc _ (hI.alloc _ h0));have wide:∀ {β:Type} {X:β→World→Prop},OwnFrom w.heap.size X→AbidesFrom W1.heap.size X:=fun hX s A B row hs hg hr =>
  hX s A B row hs hg fun r e=>by obtain⟨h,o,ho,hw⟩:=hr r e;exact⟨by omega,o,ho,Obj.not_cells_of_walk hw⟩
 have fast:∀ {A B:World} {row:Option Nat} {b:Nat} {o:Obj},A.grownBy B row→(∀ r,row=some r→W1.heap.size≤r∧∃ o:Obj,A.heap[r]? = some o∧o.isWalk=true)→b<W1.heap.size→A.heap[b]? = some o→B.heap[b]? = some o:=fun {A B row b o} hg hr hb ho =>
  (hg.block b (Array.getElem?_eq_some_iff.1 ho).1 (fun e=>by have:=(hr b e.symm).1;omega)).trans ho
 refine⟨w.heap.size+1,[{ target:=.collected w.heap.size,args:=#[] }],W1,{ target:=.fn (.func gf) lb,args:=#[.func (.yield (w.heap.size+1)) #[] #[]] },W1,gf,#[.func (.yield (w.heap.size+1)) #[] #[]]++lb,W1,?_,?_,?_,?_,fun _=>h1,?_⟩
 ·rw [←hW1,hrec];exact run_enterLoop_outer _ _ _ _ _
 ·simp only [resolve,hg];simp [go_sem]
 ·intro f' hf';simp [Target.leads] at hf';subst hf';exact hFg
 ·simp [invoke,go_sem,eg]
 ·refine (hseq (w.heap.size+1)
   (fun bef W=>(I bef W∧W.heap[w.heap.size+1]? = some (.loop (rec .ready none)))∧W.heap[w.heap.size]? = some (.deferred (some [])))
   (fun bef W=>∃ c,(Ix c bef W∧W.heap[w.heap.size+1]? = some (.loop (rec .done (some c))))∧W.heap[w.heap.size]? = some (.deferred (some [])))
   W1 low
   (fun s A B row hs hg hr=>⟨⟨wide hI s A B row hs.1.1 hg hr,fast hg hr (by omega) hs.1.2⟩,fast hg hr (by omega) hs.2⟩)
   (fun s A B row ⟨c,hs⟩ hg hr=>⟨c,⟨wide (hIx c) s A B row hs.1.1 hg hr,fast hg hr (by omega) hs.1.2⟩,fast hg hr (by omega) hs.2⟩)
   ?_ ⟨⟨start,held.1⟩,held.2⟩).mono ?_
  ·rintro bef x W ⟨⟨hi,hl⟩,hk⟩ hq hlen;have hy:=run_yield (P:=P) (args:=encs x) hl (hp _ _ x);rw [hrec] at hy;refine⟨fn,_,assign,body,hy,roundIn_of_wpIn hfn (wpIn_mono (hround _ bef x W (by omega) hi hq hlen) ?_)⟩;clear hy hi hq hround;rintro e a' Wa ha;cases e with
   | normal =>
    obtain⟨kf,kp,hia,hb⟩:=ha;have hla:=kf.same _ _ (by omega) hl rfl;have hka:=kf.same _ _ (Nat.le_refl _) hk rfl;have hlt:=(Array.getElem?_eq_some_iff.1 hla).1;refine⟨_,run_beginRound hla (by rw [hrec]),?_⟩;have hib:=hI.putObj (.loop { rec .ready none with state:=.busy }) hia (by omega) hla rfl;have hlb:(Wa.putObj (w.heap.size+1) (.loop { rec .ready none with state:=.busy })).heap[w.heap.size+1]? = some (.loop { rec .ready none with state:=.busy }):=World.putObj_heap_same hlt;have hkb:(Wa.putObj (w.heap.size+1) (.loop { rec .ready none with state:=.busy })).heap[w.heap.size]? = some (.deferred (some [])):=(World.putObj_heap_other (by omega)).trans hka;have kpb:=hKt kp (hKb _ _ _ (.loop { rec .ready none with state:=.busy }) (by omega) hla rfl rfl);refine wpIn_mono (hb _ (Near.put hla) hib) ?_;clear hb hib;generalize Wa.putObj (w.heap.size+1) (.loop { rec .ready none with state:=.busy })=Wb at *
    have fin:∀ (jump:Option Code) (W3:World),KeepsFrom w.heap.size Wb W3→∃ W4,(Instr.endRound (w.heap.size+1) jump).run P W3=.ok (.bool jump.isNone) W4 ∧
      W4=W3.putObj (w.heap.size+1) (.loop (rec (if jump.isNone then .ready else .done) jump))∧W3.heap[w.heap.size+1]? = some (.loop { rec .ready none with state:=.busy }) ∧
      W4.heap[w.heap.size+1]? = some (.loop (rec (if jump.isNone then .ready else .done) jump))∧W4.heap[w.heap.size]? = some (.deferred (some [])):=fun jump W3 k3=>by
     have h3:=k3.same _ _ (by omega) hlb rfl;have he:=run_endRound (P:=P) jump h3;refine⟨_,?_,rfl,h3,World.putObj_heap_same (Array.getElem?_eq_some_iff.1 h3).1,(World.putObj_heap_other (by omega)).trans (k3.same _ _ (Nat.le_refl _) hkb rfl)⟩;rw [he,hrec]
    rintro e a3 W3 hq;have leave:∀ (c:Code),KeepsFrom w.heap.size Wb W3∧Kp Wb W3∧Ix c (bef++[x]) W3→∃ v W4,(Instr.endRound (w.heap.size+1) (some c)).run P W3=.ok v W4∧(v=.bool false∧(∃ c,(Ix c (bef++[x]) W4∧W4.heap[w.heap.size+1]? = some (.loop (rec .done (some c))))∧W4.heap[w.heap.size]? = some (.deferred (some [])))∧Kp W W4):=fun c ⟨k3,kp3,i3⟩=>by
     obtain⟨W4,r4,e4,h3,l4,d4⟩:=fin (some c) W3 k3;exact⟨_,W4,r4,rfl,⟨c,⟨by rw [e4];exact (hIx c).putObj _ i3 (by omega) h3 rfl,l4⟩,d4⟩,hKt (hKt kpb kp3) (by rw [e4];exact hKb _ _ _ _ (by omega) h3 rfl rfl)⟩
    cases e with
    | normal =>
     obtain⟨k3,kp3,i3⟩:=hq;obtain⟨W4,r4,e4,h3,l4,d4⟩:=fin none W3 k3;exact⟨_,W4,r4,.inl ⟨rfl,⟨⟨by rw [e4];exact hI.putObj _ i3 (by omega) h3 rfl,l4⟩,d4⟩,hKt (hKt kpb kp3) (by rw [e4];exact hKb _ _ _ _ (by omega) h3 rfl rfl)⟩⟩
    | ret=>obtain⟨v,W4,r4,rfl,h4⟩:=leave .ret hq;exact⟨_,W4,r4,.inr ⟨rfl,h4⟩⟩
    | exit id=>obtain⟨v,W4,r4,rfl,h4⟩:=leave (.exit id) hq;exact⟨_,W4,r4,.inr ⟨rfl,h4⟩⟩
    | goto t=>obtain⟨v,W4,r4,rfl,h4⟩:=leave (.goto t) hq;exact⟨_,W4,r4,.inr ⟨rfl,h4⟩⟩
    | panic ch=>exact hq.elim
    | outgrown=>exact hq.elim
   | _=>exact ha.elim
  ·rintro e W2 ⟨⟨v,rfl⟩,(⟨xs,hS,⟨hi,hl⟩,hk⟩ | ⟨bef,hSp,c,⟨hi,hl⟩,hk⟩)⟩
   ·have hr:=run_endLoop (P:=P) hl (by rw [hrec];simp);exact⟨none,_,by rw [hr,hrec],hdone _ xs _ (Nat.le_refl _) hS (hI.putObj _ hi (by omega) hl rfl) ((World.putObj_heap_other (by omega)).trans hk)⟩
   ·have hr:=run_endLoop (P:=P) hl (by rw [hrec];simp);exact⟨some c,_,by rw [hr,hrec],hstop _ c bef _ (Nat.le_refl _) hSp ((hIx c).putObj _ hi (by omega) hl rfl) ((World.putObj_heap_other (by omega)).trans hk)⟩
end
end ItW
namespace ItW
open Go Go.RowKit LexW LexM ExM ExW ItM
open ClM (Fld)
abbrev iv (kd o n:Int) (en:ByteArray) (a4:Value) (nm ix:ByteArray) (a7 a8 a9 a10 a11:Value):Value :=
 .agg #[.int .i64 kd,.int .i64 o,.int .i64 n,.string en,a4,.string nm,.string ix,a7,a8,a9,a10,a11]
abbrev plv (d mb:Nat):Value:=.agg #[.int .i64 d,.map (some mb)]
def StA (N:Nat) (w:World) (v:Value) (l:List ByteArray):Prop :=
 ∃ p cap,v=.slice p l.length cap∧l.length*16≤140737488351232∧l.length≤cap∧(∀ s∈l,s.size≤140737488351232) ∧
  (0<l.length→∃ b off,p=some ⟨b,off,none⟩∧b<N∧∀ (i:Nat) (s:ByteArray),l[i]? = some s→w.cell? ⟨b,off+i,none⟩=some (.string s))
def WtA (N:Nat) (w:World) (v:Value) (l:List Wt):Prop :=
 ∃ p cap,v=.slice p l.length cap∧l.length*32≤140737488351232∧l.length≤cap ∧
  (0<l.length→∃ b off,p=some ⟨b,off,none⟩∧b<N∧∀ (i:Nat) (t:Wt),l[i]? = some t→w.cell? ⟨b,off+i*4,none⟩=some (.int .i64 t.lo)∧w.cell? ⟨b,off+i*4+1,none⟩=some (.int .i64 t.hi) ∧
   w.cell? ⟨b,off+i*4+2,none⟩=some (.int .i64 t.wt)∧w.cell? ⟨b,off+i*4+3,none⟩=some (.bool t.ea))
structure C12 (w:World) (b o:Nat) (x:It) (V:Nat→Value):Prop where
 c0:w.cell? ⟨b,o,none⟩=some (.int .i64 x.kd)
 c1:w.cell? ⟨b,o+1,none⟩=some (.int .i64 x.e.op)
 c2:w.cell? ⟨b,o+2,none⟩=some (.int .i64 x.e.n)
 c3:w.cell? ⟨b,o+3,none⟩=some (.string x.e.nm)
 c4:w.cell? ⟨b,o+4,none⟩=some (V 4)
 c5:w.cell? ⟨b,o+5,none⟩=some (.string x.nm)
 c6:w.cell? ⟨b,o+6,none⟩=some (.string x.ix)
 c7:w.cell? ⟨b,o+7,none⟩=some (V 7)
 c8:w.cell? ⟨b,o+8,none⟩=some (V 8)
 c9:w.cell? ⟨b,o+9,none⟩=some (V 9)
 c10:w.cell? ⟨b,o+10,none⟩=some (V 10)
 c11:w.cell? ⟨b,o+11,none⟩=some (V 11)
inductive ItsA (N:Nat) (w:World):Value→List It→Prop where
 | mk (p:Option Addr) (cap:Nat) (l:List It) (V:Nat→Nat→Value)
   (hl:l.length*216≤140737488351232) (hc:l.length≤cap)
   (hp:0<l.length→∃ b off,p=some ⟨b,off,none⟩∧b<N∧∀ (i:Nat) (x:It),l[i]? = some x→C12 w b (off+i*12) x (V i))
   (hn:∀ (i:Nat) (x:It),l[i]? = some x→x.nm.size≤140737488351232∧x.ix.size≤140737488351232)
   (he:∀ (i:Nat) (x:It),l[i]? = some x→ExAt N w (xv x.e.op x.e.n x.e.nm (V i 4)) x.e)
   (hw:∀ (i:Nat) (x:It),l[i]? = some x→WtA N w (V i 7) x.ws)
   (hi:∀ (i:Nat) (x:It),l[i]? = some x→ItsA N w (V i 8) x.it)
   (hx:∀ (i:Nat) (x:It),l[i]? = some x→ItsA N w (V i 9) x.el)
   (hb:∀ (i:Nat) (x:It),l[i]? = some x→StA N w (V i 10) x.bf)
   (hf:∀ (i:Nat) (x:It),l[i]? = some x→StA N w (V i 11) x.af):ItsA N w (.slice p l.length cap) l
structure IV (N:Nat) (w:World) (a4 a7 a8 a9 a10 a11:Value) (x:It):Prop where
 nm:x.nm.size≤140737488351232
 ix:x.ix.size≤140737488351232
 ex:ExAt N w (xv x.e.op x.e.n x.e.nm a4) x.e
 wt:WtA N w a7 x.ws
 its:ItsA N w a8 x.it
 els:ItsA N w a9 x.el
 bfs:StA N w a10 x.bf
 afs:StA N w a11 x.af
structure RowI (N:Nat) (w:World) (p:Option Addr) (cap:Nat) (V:Nat→Nat→Value) (l:List It):Prop where
 hl:l.length*216≤140737488351232
 hc:l.length≤cap
 hp:0<l.length→∃ b off,p=some ⟨b,off,none⟩∧b<N∧∀ (i:Nat) (x:It),l[i]? = some x→C12 w b (off+i*12) x (V i)
 hv:∀ (i:Nat) (x:It),l[i]? = some x→IV N w (V i 4) (V i 7) (V i 8) (V i 9) (V i 10) (V i 11) x
theorem ItsA.form {N:Nat} {w:World} {v:Value} {l:List It} (h:ItsA N w v l):∃ p cap V,v=.slice p l.length cap∧RowI N w p cap V l:=by
 cases h with
 | mk p cap _ V hl hc hp hn he hw hi hx hb hf=>exact⟨p,cap,V,rfl,hl,hc,hp,fun i x h=>⟨(hn i x h).1,(hn i x h).2,he i x h,hw i x h,hi i x h,hx i x h,hb i x h,hf i x h⟩⟩
theorem RowI.its {N:Nat} {w:World} {p:Option Addr} {cap:Nat} {V:Nat→Nat→Value} {l:List It} (h:RowI N w p cap V l):ItsA N w (.slice p l.length cap) l :=
 .mk p cap l V h.hl h.hc h.hp (fun i x g=>⟨(h.hv i x g).nm,(h.hv i x g).ix⟩) (fun i x g=>(h.hv i x g).ex) (fun i x g=>(h.hv i x g).wt) (fun i x g=>(h.hv i x g).its) (fun i x g=>(h.hv i x g).els) (fun i x g=>(h.hv i x g).bfs) (fun i x g=>(h.hv i x g).afs)
theorem StA.kept {N N':Nat} {w w':World} (hk:∀ b o,b<N→∀ v,w.cell? ⟨b,o,none⟩=some v→w'.cell? ⟨b,o,none⟩=some v) (hN:N≤N') {v:Value} {l:List ByteArray} (h:StA N w v l):StA N' w' v l:=by
 obtain⟨p,cap,e,h1,h2,h3,h4⟩:=h;exact⟨p,cap,e,h1,h2,h3,fun h0=>by obtain⟨b,off,e,hb,hc⟩:=h4 h0;exact⟨b,off,e,by omega,fun i s hi=>hk _ _ hb _ (hc i s hi)⟩⟩
theorem WtA.kept {N N':Nat} {w w':World} (hk:∀ b o,b<N→∀ v,w.cell? ⟨b,o,none⟩=some v→w'.cell? ⟨b,o,none⟩=some v) (hN:N≤N') {v:Value} {l:List Wt} (h:WtA N w v l):WtA N' w' v l:=by
 obtain⟨p,cap,e,h1,h2,h4⟩:=h;exact⟨p,cap,e,h1,h2,fun h0=>by obtain⟨b,off,e,hb,hc⟩:=h4 h0;exact⟨b,off,e,by omega,fun i s hi=>⟨hk _ _ hb _ (hc i s hi).1,hk _ _ hb _ (hc i s hi).2.1,hk _ _ hb _ (hc i s hi).2.2.1,hk _ _ hb _ (hc i s hi).2.2.2⟩⟩⟩
theorem C12.kept {w w':World} {b o:Nat} {x:It} {V:Nat→Value} (hk:∀ o v,w.cell? ⟨b,o,none⟩=some v→w'.cell? ⟨b,o,none⟩=some v) (h:C12 w b o x V):C12 w' b o x V :=
 ⟨hk _ _ h.c0,hk _ _ h.c1,hk _ _ h.c2,hk _ _ h.c3,hk _ _ h.c4,hk _ _ h.c5,hk _ _ h.c6,hk _ _ h.c7,hk _ _ h.c8,hk _ _ h.c9,hk _ _ h.c10,hk _ _ h.c11⟩
theorem ItsA.kept {N N':Nat} {w w':World} (hk:∀ b o,b<N→∀ v,w.cell? ⟨b,o,none⟩=some v→w'.cell? ⟨b,o,none⟩=some v) (hN:N≤N') {v:Value} {l:List It} (h:ItsA N w v l):ItsA N' w' v l:=by
 induction h with
 | mk p cap l V hl hc hp hn he hw hi hx hb hf ih1 ih2 =>
  refine .mk p cap l V hl hc (fun h0=>?_) hn (fun i x g=>(he i x g).kept hk hN) (fun i x g=>(hw i x g).kept hk hN) ih1 ih2 (fun i x g=>(hb i x g).kept hk hN) (fun i x g=>(hf i x g).kept hk hN);obtain⟨b,off,e,hlt,hcell⟩:=hp h0;exact⟨b,off,e,by omega,fun i x g=>(hcell i x g).kept (fun o v hv=>hk _ _ hlt _ hv)⟩
theorem IV.kept {N N':Nat} {w w':World} (hk:∀ b o,b<N→∀ v,w.cell? ⟨b,o,none⟩=some v→w'.cell? ⟨b,o,none⟩=some v) (hN:N≤N') {a4 a7 a8 a9 a10 a11:Value} {x:It} (h:IV N w a4 a7 a8 a9 a10 a11 x):IV N' w' a4 a7 a8 a9 a10 a11 x :=
 ⟨h.nm,h.ix,h.ex.kept hk hN,h.wt.kept hk hN,h.its.kept hk hN,h.els.kept hk hN,h.bfs.kept hk hN,h.afs.kept hk hN⟩
theorem RowI.kept {N N':Nat} {w w':World} (hk:∀ b o,b<N→∀ v,w.cell? ⟨b,o,none⟩=some v→w'.cell? ⟨b,o,none⟩=some v) (hN:N≤N') {p:Option Addr} {cap:Nat} {V:Nat→Nat→Value} {l:List It} (h:RowI N w p cap V l):RowI N' w' p cap V l :=
 ⟨h.hl,h.hc,fun h0=>by obtain⟨b,off,e,hlt,hc⟩:=h.hp h0;exact⟨b,off,e,by omega,fun i x g=>(hc i x g).kept (fun o v hv=>hk _ _ hlt _ hv)⟩,fun i x g=>(h.hv i x g).kept hk hN⟩
theorem IV.slices {N:Nat} {w:World} {a4 a7 a8 a9 a10 a11:Value} {x:It} (h:IV N w a4 a7 a8 a9 a10 a11 x):∃ p4 k4 p7 k7 p8 k8 p9 k9 p10 k10 p11 k11,
  a4=.slice p4 x.e.args.length k4∧a7=.slice p7 x.ws.length k7∧a8=.slice p8 x.it.length k8∧a9=.slice p9 x.el.length k9∧a10=.slice p10 x.bf.length k10∧a11=.slice p11 x.af.length k11:=by
 obtain⟨p4,k4,_,_,e4,_⟩:=h.ex.form;obtain⟨p7,k7,e7,_⟩:=h.wt;obtain⟨p8,k8,_,e8,_⟩:=h.its.form;obtain⟨p9,k9,_,e9,_⟩:=h.els.form;obtain⟨p10,k10,e10,_⟩:=h.bfs;obtain⟨p11,k11,e11,_⟩:=h.afs;refine⟨p4,k4,p7,k7,p8,k8,p9,k9,p10,k10,p11,k11,?_,e7,e8,e9,e10,e11⟩
 simpa using e4
theorem low_cells {N:Nat} {w w':World} (hb:Below N w w'):∀ b o,b<N→∀ v,w.cell? ⟨b,o,none⟩=some v→w'.cell? ⟨b,o,none⟩=some v:=fun b o hlt _ hv=>(hb.cell (p:=⟨b,o,none⟩) hlt).trans hv
theorem ItsA.under {N:Nat} {w w':World} (hb:Below N w w') {v:Value} {l:List It} (h:ItsA N w v l):ItsA N w' v l:=h.kept (low_cells hb) (Nat.le_refl _)
theorem ItsA.wide {N N':Nat} {w:World} (hN:N≤N') {v:Value} {l:List It} (h:ItsA N w v l):ItsA N' w v l:=h.kept (fun _ _ _ _ hv=>hv) hN
theorem RowI.under {N:Nat} {w w':World} (hb:Below N w w') {p:Option Addr} {cap:Nat} {V:Nat→Nat→Value} {l:List It} (h:RowI N w p cap V l):RowI N w' p cap V l:=h.kept (low_cells hb) (Nat.le_refl _)
theorem IV.under {N:Nat} {w w':World} (hb:Below N w w') {a4 a7 a8 a9 a10 a11:Value} {x:It} (h:IV N w a4 a7 a8 a9 a10 a11 x):IV N w' a4 a7 a8 a9 a10 a11 x:=h.kept (low_cells hb) (Nat.le_refl _)
theorem IV.wide {N N':Nat} {w:World} (hN:N≤N') {a4 a7 a8 a9 a10 a11:Value} {x:It} (h:IV N w a4 a7 a8 a9 a10 a11 x):IV N' w a4 a7 a8 a9 a10 a11 x:=h.kept (fun _ _ _ _ hv=>hv) hN
theorem StA.under {N:Nat} {w w':World} (hb:Below N w w') {v:Value} {l:List ByteArray} (h:StA N w v l):StA N w' v l:=h.kept (low_cells hb) (Nat.le_refl _)
theorem StA.wide {N N':Nat} {w:World} (hN:N≤N') {v:Value} {l:List ByteArray} (h:StA N w v l):StA N' w v l:=h.kept (fun _ _ _ _ hv=>hv) hN
theorem WtA.under {N:Nat} {w w':World} (hb:Below N w w') {v:Value} {l:List Wt} (h:WtA N w v l):WtA N w' v l:=h.kept (low_cells hb) (Nat.le_refl _)
theorem WtA.wide {N N':Nat} {w:World} (hN:N≤N') {v:Value} {l:List Wt} (h:WtA N w v l):WtA N' w v l:=h.kept (fun _ _ _ _ hv=>hv) hN
theorem ItsA.nil (N:Nat) (w:World) (p:Option Addr) (cap:Nat):ItsA N w (.slice p 0 cap) [] :=
 .mk p cap [] (fun _ _=>.bool false) (by simp) (by simp) (fun h=>by simp at h) (fun i x h=>by simp at h) (fun i x h=>by simp at h) (fun i x h=>by simp at h) (fun i x h=>by simp at h) (fun i x h=>by simp at h) (fun i x h=>by simp at h) (fun i x h=>by simp at h)
theorem StA.nil (N:Nat) (w:World) (p:Option Addr) (cap:Nat):StA N w (.slice p 0 cap) []:=⟨p,cap,rfl,by simp,by simp,fun _ h=>(by cases h),fun h=>by simp at h⟩
theorem WtA.nil (N:Nat) (w:World) (p:Option Addr) (cap:Nat):WtA N w (.slice p 0 cap) []:=⟨p,cap,rfl,by simp,by simp,fun h=>by simp at h⟩
def okO:Obj→Prop
 | .cells _ t _=>t≠9
 | .map ..=>True
 | _=>False
theorem okC {cs:Array Value} {t:TypeId} {fr:Nat × Nat} (h:t≠9):okO (.cells cs t fr):=h
structure KeepC (n₀ n₁:Nat) (W W':World):Prop where
 size:W.heap.size≤W'.heap.size
 low:∀ b cs t fr,b<n₀→W.heap[b]? = some (.cells cs t fr)→W'.heap[b]? = some (.cells cs t fr)
 high:∀ b o,n₁≤b→okO o→W.heap[b]? = some o→W'.heap[b]? = some o
theorem KeepC.refl (n₀ n₁:Nat) (W:World):KeepC n₀ n₁ W W:=⟨Nat.le_refl _,fun _ _ _ _ _ h=>h,fun _ _ _ _ h=>h⟩
theorem KeepC.trans {n₀ n₁:Nat} {A B C:World} (h:KeepC n₀ n₁ A B) (k:KeepC n₀ n₁ B C):KeepC n₀ n₁ A C :=
 ⟨Nat.le_trans h.size k.size,fun b cs t fr hb hv=>k.low b cs t fr hb (h.low b cs t fr hb hv),fun b o hb ho hv=>k.high b o hb ho (h.high b o hb ho hv)⟩
theorem KeepC.of_below {n₀ n₁:Nat} {W W':World} (h:Below W.heap.size W W'):KeepC n₀ n₁ W W' :=
 ⟨h.size,fun b _ _ _ _ hv=>(h.block b (Array.getElem?_eq_some_iff.1 hv).1).trans hv,fun b _ _ _ hv=>(h.block b (Array.getElem?_eq_some_iff.1 hv).1).trans hv⟩
theorem KeepC.tree {n₀ n₁:Nat} {W W':World} (h:KeepC n₀ n₁ W W') {b o:Nat} {v:Value} (hb:b<n₀) (hv:W.cell? ⟨b,o,none⟩=some v):W'.cell? ⟨b,o,none⟩=some v:=by
 obtain⟨cs,t,fr,hc⟩:=cell_cells hv;exact (World.cell?_of_block (w:=W) (by rw [h.low b cs t fr hb hc,hc])).trans hv
theorem KeepC.grown {n₀ n₁:Nat} {W W':World} {row:Option Nat} (h:W.grownBy W' row) (hr:∀ b,row=some b→n₀≤b∧(b<n₁∨∀ o,W.heap[b]? = some o→¬ okO o)):KeepC n₀ n₁ W W':=by
 refine⟨h.size,fun b cs t fr hb hv=>?_,fun b o hb ho hv=>?_⟩
 ·exact (h.block b (Array.getElem?_eq_some_iff.1 hv).1 (fun e=>by have:=(hr b e.symm).1;omega)).trans hv
 ·exact (h.block b (Array.getElem?_eq_some_iff.1 hv).1 (fun e=>by
   rcases (hr b e.symm).2 with g | g
   ·omega
   ·exact g o hv ho)).trans hv
theorem KeepC.set {n₀ n₁:Nat} {W W':World} (h:KeepC n₀ n₁ W W') {b:Nat} (h0:n₀≤b) (h1:b<n₁) (v:Value):KeepC n₀ n₁ W (W'.setCell ⟨b,0,none⟩ v) :=
 h.trans (KeepC.grown (grownBy_setCell' W' b v) fun b' e=>by cases e;exact⟨h0,.inl h1⟩)
theorem keepC_t {n₀ n₁:Nat} {A B C:World} (h:KeepC n₀ n₁ A B) (k:KeepC n₀ n₁ B C):KeepC n₀ n₁ A C:=h.trans k
theorem keepC_b {n₀ n₁:Nat} {w:World} (hn:n₀≤w.heap.size) (W:World) (l:Nat) (o o':Obj) (hl:w.heap.size≤l) (h:W.heap[l]? = some o) (hc:o.isCells=false) (hw:o.isWalk=false):KeepC n₀ n₁ W (W.putObj l o') :=
 KeepC.grown (grownBy_putObj' W l o') fun b e=>by
  cases e;refine⟨by omega,.inr fun o2 h2 ho=>?_⟩;rw [h] at h2;cases h2;cases o<;>simp_all [okO,Obj.isCells,Obj.isWalk]
theorem ItsA.keep {n₀ n₁:Nat} {W W':World} (h:KeepC n₀ n₁ W W') {v:Value} {l:List It} (hx:ItsA n₀ W v l):ItsA n₀ W' v l :=
 hx.kept (fun _ _ hb _ hv=>h.tree hb hv) (Nat.le_refl _)
theorem RowI.keep {n₀ n₁:Nat} {W W':World} (h:KeepC n₀ n₁ W W') {p:Option Addr} {cap:Nat} {V:Nat→Nat→Value} {l:List It} (hx:RowI n₀ W p cap V l):RowI n₀ W' p cap V l :=
 hx.kept (fun _ _ hb _ hv=>h.tree hb hv) (Nat.le_refl _)
theorem IV.keep {n₀ n₁:Nat} {W W':World} (h:KeepC n₀ n₁ W W') {a4 a7 a8 a9 a10 a11:Value} {x:It} (hx:IV n₀ W a4 a7 a8 a9 a10 a11 x):IV n₀ W' a4 a7 a8 a9 a10 a11 x :=
 hx.kept (fun _ _ hb _ hv=>h.tree hb hv) (Nat.le_refl _)
def cntB (B:List ByteArray) (t:ByteArray):Int:=((B.filter (fun s=>ClM.same s t)).length:Int)
theorem cntB_cons (s t:ByteArray) (B:List ByteArray):cntB (s::B) t=cntB B t+(if ClM.same s t=true then 1 else 0):=by
 unfold cntB;rw [List.filter_cons];split
 ·simp
 ·simp
theorem cntB_pos (B:List ByteArray) (t:ByteArray):0≤cntB B t∧(cntB B t=0↔memB B t=false):=by
 refine⟨by unfold cntB;omega,?_⟩;unfold cntB memB;rw [List.any_eq_false];constructor
 ·intro h x hx hs;have h0:B.filter (fun s=>ClM.same s t)=[]:=List.length_eq_zero_iff.1 (by omega);have:=List.filter_eq_nil_iff.1 h0 x hx;exact this hs
 ·intro h;have:B.filter (fun s=>ClM.same s t)=[]:=(List.filter_eq_nil_iff.2 fun x hx=>h x hx);rw [this];rfl
theorem cntB_le (B:List ByteArray) (t:ByteArray):cntB B t≤B.length:=by
 unfold cntB;have:=List.length_filter_le (fun s=>ClM.same s t) B;omega
def IntMap (W:World) (mb n:Nat) (f:ByteArray→Int):Prop :=
 ∃ D:DataW Unit,W.ownsMap Tryz.prog 9 (plainElem (H:=Unit) Tryz.prog 3) mb n D∧∀ t:ByteArray,D.atKey (.string t.data.toList) (.lit (.int .i64 0))=.lit (.int .i64 (f t))
theorem IntMap.made (w:World):IntMap (w.alloc (.map #[] 0)) w.heap.size 0 (fun _=>0):=⟨_,World.ownsMap_made w _ _ _,fun t=>by simp [DataW.atKey]⟩
theorem IntMap.mono {W:World} {mb n n':Nat} {f:ByteArray→Int} (h:IntMap W mb n f) (hn:n≤n'):IntMap W mb n' f:=by
 obtain⟨D,h1,h2⟩:=h;exact⟨D,h1.mono hn,h2⟩
theorem IntMap.same {W:World} {mb n:Nat} {f g:ByteArray→Int} (h:IntMap W mb n f) (e:∀ t,f t=g t):IntMap W mb n g:=by
 obtain⟨D,h1,h2⟩:=h;exact⟨D,h1,fun t=>by rw [h2,e]⟩
theorem IntMap.obj {W:World} {mb n:Nat} {f:ByteArray→Int} (h:IntMap W mb n f):∃ es ck,W.heap[mb]? = some (.map es ck):=by
 obtain⟨D,⟨es,ck,hb,_⟩,_⟩:=h;exact⟨es,ck,hb⟩
theorem IntMap.lt {W:World} {mb n:Nat} {f:ByteArray→Int} (h:IntMap W mb n f):mb<W.heap.size:=by
 obtain⟨es,ck,hb⟩:=h.obj;exact (Array.getElem?_eq_some_iff.1 hb).1
theorem IntMap.stay {W W':World} {mb n:Nat} {f:ByteArray→Int} (h:IntMap W mb n f) (hk:∀ o,W.heap[mb]? = some o→okO o→W'.heap[mb]? = some o):IntMap W' mb n f:=by
 obtain⟨D,⟨es,ck,hb,r⟩,h2⟩:=h;exact⟨D,⟨es,ck,hk _ hb trivial,r⟩,h2⟩
theorem IntMap.below {W W':World} {mb n:Nat} {f:ByteArray→Int} (h:IntMap W mb n f) (hb:Below W.heap.size W W'):IntMap W' mb n f :=
 h.stay fun _ ho _=>(hb.block mb h.lt).trans ho
theorem IntMap.keep {W W':World} {n₀ n₁ mb n:Nat} {f:ByteArray→Int} (h:IntMap W mb n f) (hm:n₁≤mb) (hk:KeepC n₀ n₁ W W'):IntMap W' mb n f :=
 h.stay fun o ho ok=>hk.high mb o hm ok ho
theorem IntMap.setCell {W:World} {mb n b:Nat} {f:ByteArray→Int} (h:IntMap W mb n f) (hb:b≠mb) (v:Value):IntMap (W.setCell ⟨b,0,none⟩ v) mb n f:=by
 obtain⟨D,h1,h2⟩:=h;exact⟨D,h1.setCell (fun e=>hb e.symm) v,h2⟩
theorem IntMap.look {W:World} {mb n:Nat} {f:ByteArray→Int} {T:TypeId} (hT:Tryz.prog.underlying T=some (.map 9 3)) (h:IntMap W mb n f) (t:ByteArray) (ht:t.size≤140737488351232) :
  (Instr.lookup T (.map (some mb)) (.string t) false).run Tryz.prog W=.ok (.int .i64 (f t)) W:=by
 obtain⟨D,h1,h2⟩:=h;obtain⟨c,hr,hc,_⟩:=h1.lookup_int (Maps.string_keyed Tryz.underlying9) hT Tryz.underlying3 (Tryz.zeroValue3 W) (Go.WideMaps.keyOf_string_mk Tryz.underlying9 (Nat.le_trans ht (by decide)));rw [h2] at hc;simp only [DataW.lit.injEq,Lit.int.injEq,true_and] at hc;rw [hr,hc]
theorem bs_eq {a b:ByteArray} (h:a.data.toList=b.data.toList):a=b:=by
 rw [←bs_data a,←bs_data b,h]
theorem hwf (v:Int) (h0:-9223372036854775808≤v) (h1:v≤9223372036854775807):(Lit.int .i64 v).wf=true:=by
 unfold Lit.wf;simp only [IntKind.min,IntKind.max,Bool.and_eq_true];exact⟨decide_eq_true h0,decide_eq_true h1⟩
theorem IntMap.put {W:World} {mb n:Nat} {f:ByteArray→Int} {T:TypeId} (hT:Tryz.prog.underlying T=some (.map 9 3)) (h:IntMap W mb n f) (hn:n≤90000000) (s:ByteArray) (hs:s.size≤140737488351232) (v:Int) (h0:-9223372036854775808≤v) (h1:v≤9223372036854775807) :
  ∃ W',(Instr.mapUpdate T (.map (some mb)) (.string s) (.int .i64 v)).run Tryz.prog W=.ok () W'∧IntMap W' mb (n+1) (fun t=>if ClM.same s t=true then v else f t)∧W.grownBy W' (some mb):=by
 obtain⟨D,g1,g2⟩:=h;obtain⟨W',hr,ho,hg⟩:=g1.update (Maps.string_keyed Tryz.underlying9) hT (Nat.lt_of_le_of_lt hn (by decide)) (Go.WideMaps.keyOf_string_mk Tryz.underlying9 (Nat.le_trans hs (by decide))) (plainElem_int Tryz.underlying3 (a:=v) (hwf v h0 h1));refine⟨W',hr,⟨_,ho,fun t=>?_⟩,hg⟩;have hm:=g1.isMap;show (D.put (.string s.data.toList) (.lit (.int .i64 v))).atKey (.string t.data.toList) (.lit (.int .i64 0))=.lit (.int .i64 (if ClM.same s t=true then v else f t));by_cases e:ClM.same s t=true
 ·have e2:s.data.toList=t.data.toList:=(by simpa [ClM.same] using e);rw [if_pos e,←e2,Maps.atKey_put_same hm (by simp [WideAt.IsKeyLit])]
 ·rw [if_neg e,Maps.atKey_put_other (by
   intro x;simp only [Lit.string.injEq] at x;exact e (by simpa [ClM.same] using x.symm)),g2]
end ItW
namespace CtW
open Go Go.RowKit Go.Shelf NumM LexW ExW ItW LexM ExM EtM ItM CtM
def Pg (B pb:Nat) (t:List UInt8) (w:World):Prop:=Lib.IsBuilder 63 5 B pb (Lib.byteCells t) w
structure Kp (B pb:Nat) (W W':World):Prop where
 low:Below B W W'
 size:W.heap.size≤W'.heap.size
 blk:∀ b cs t fr,W.heap[b]? = some (.cells cs t fr)→b≠pb→t≠5→W'.heap[b]? = some (.cells cs t fr)
section
variable {B pb:Nat} {W0 W W':World}
theorem Kp.refl (B pb:Nat) (W:World):Kp B pb W W:=⟨Below.refl _ _,Nat.le_refl _,fun _ _ _ _ h _ _=>h⟩
theorem Kp.trans {A:World} (h:Kp B pb A W) (k:Kp B pb W W'):Kp B pb A W':=⟨h.low.trans k.low,Nat.le_trans h.size k.size,fun b cs t fr hb h1 h2=>k.blk b cs t fr (h.blk b cs t fr hb h1 h2) h1 h2⟩
theorem Kp.below (h:Kp B pb W0 W) (hB:B≤W.heap.size) (hb:Below W.heap.size W W'):Kp B pb W0 W' :=
 ⟨h.low.trans (hb.mono hB),Nat.le_trans h.size hb.size,fun b cs t fr hv h1 h2=>by
  have:=h.blk b cs t fr hv h1 h2;exact (hb.block b (Array.getElem?_eq_some_iff.1 this).1).trans this⟩
theorem Kp.set (h:Kp B pb W0 W) (hB:B≤pb) (i:Nat) (v:Value):Kp B pb W0 (W.setCell ⟨pb,i,none⟩ v) :=
 ⟨h.low.setCell (p:=⟨pb,i,none⟩) hB v,by rw [setCell_size];exact h.size,fun b cs t fr hv h1 h2=>by
  rw [Below.heap_setCell _ _ _ _ (by exact h1)];exact h.blk b cs t fr hv h1 h2⟩
theorem Kp.grown {row:Option Nat} (h:Kp B pb W0 W) (hB:B≤W.heap.size) (hg:W.grownBy W' row) (hr:∀ k,row=some k→B≤k∧∀ cs t fr,W.heap[k]? = some (.cells cs t fr)→t=5):Kp B pb W0 W' :=
 ⟨h.low.grown hg hB (fun k hk=>(hr k hk).1),Nat.le_trans h.size hg.size,fun b cs t fr hv h1 h2=>by
  have hw:=h.blk b cs t fr hv h1 h2;exact (hg.block b (Array.getElem?_eq_some_iff.1 hw).1 (fun e=>h2 ((hr b e.symm).2 cs t fr hw))).trans hw⟩
end
theorem own_u8 {w:World} {B:Nat} {v:Value} {n:Nat} {xs:List Value} (h:w.ownsRow B 5 1 v n xs):∀ k,v.ownBlock=some k→B≤k∧∀ cs t fr,w.heap[k]? = some (.cells cs t fr)→t=5:=by
 intro k hk;refine⟨(h.lt k hk).1,fun cs t fr hv=>?_⟩;rcases h.2 with ⟨rfl,_⟩ | ⟨g,cap,cur,rfl,_,hg,_⟩
 ·simp [Value.ownBlock] at hk
 ·simp only [Value.ownBlock,Option.some.injEq] at hk;subst hk;rw [hg] at hv;simp only [Option.some.injEq,Obj.cells.injEq] at hv;exact hv.2.1.symm
theorem Pg.lt {B pb:Nat} {t:List UInt8} {w:World} (h:Pg B pb t w):pb<w.heap.size:=by
 rcases h with h | h<;>exact h.lt
theorem Pg.lo {B pb:Nat} {t:List UInt8} {w:World} (h:Pg B pb t w):B≤pb:=by
 rcases h with h | h<;>exact h.1
theorem Pg.stay {B pb:Nat} {t:List UInt8} {w w':World} (h:Pg B pb t w) (hb:Below w.heap.size w w'):Pg B pb t w':=by
 have key:∀ p,Lib.BuilderAt 63 5 B pb p (Lib.byteCells t) w→Lib.BuilderAt 63 5 B pb p (Lib.byteCells t) w':=by
  rintro p ⟨hB,v,hv,hown,hne⟩;have hlt:pb<w.heap.size:=Lib.BuilderAt.lt ⟨hB,v,hv,hown,hne⟩;exact⟨hB,v,(hb.block pb hlt).trans hv,hown.kept (row:=none) ⟨hb.os,hb.tape,hb.output,hb.size,fun k hk _=>hb.block k hk⟩ (by by_cases g:v.ownBlock=none;exact .inl g;exact .inr g),hne⟩
 exact h.imp (key _) (key _)
theorem Pg.new (w:World):Pg w.heap.size w.heap.size [] (w.alloc (.cells #[.pointer none,.slice none 0 0] 63)) :=
 Or.inl ⟨Nat.le_refl _,.slice none 0 0,heap_alloc_new _ _,World.ownsRow_nil _ _ _ _,by simp [Value.ownBlock]⟩
theorem sizeBd:(Tryz.prog.info? 61).map (·.size)=some 2:=by kernel_rfl
theorem liesBd:liesAt Tryz.prog Tryz.prog.depth 63 (2 / Tryz.prog.cellsOf 63) 0 61 1=true:=by kernel_rfl
theorem infoByte:(Tryz.prog.info? 5).map (fun i=>(i.zero,i.size,i.bytes))=some (some (.int .u8 0),1,1):=by kernel_rfl
theorem cellsByte:Tryz.prog.cellsOf 5=1:=by kernel_rfl
theorem nePg:63≠5:=by decide
theorem ccUsed (b:Nat) (w:World) (h0:w.cell? ⟨b,0,none⟩=some (.pointer (some ⟨b,0,none⟩))) :
  Calls Tryz.prog 70 #[.pointer (some ⟨b,0,none⟩)] w fun e w'=>e=.returned (.tuple #[])∧w'=w:=by
 obtain⟨j,hj,_⟩:=Option.map_eq_some_iff.1 sizeBd
 go_enter Tryz.func70,Tryz.ntmps70
 go_wp2;rw [Lib.run_neq_ptr_same w _ Tryz.underlying58 hj];go_wp2
 go_end0
 exact⟨rfl,rfl⟩
theorem ccFresh (b:Nat) (w:World) (h0:w.cell? ⟨b,0,none⟩=some (.pointer none)) (hsh:w.shape? b=some (63,2)) (hfz:w.frozen? ⟨b,0,none⟩=false) :
  Calls Tryz.prog 70 #[.pointer (some ⟨b,0,none⟩)] w fun e w'=>e=.returned (.tuple #[])∧w'=w.setCell ⟨b,0,none⟩ (.pointer (some ⟨b,0,none⟩)):=by
 obtain⟨j,hj,hjs⟩:=Option.map_eq_some_iff.1 sizeBd
 go_enter Tryz.func70,Tryz.ntmps70
 go_wp2;rw [Lib.run_to_unsafe w ⟨b,0,none⟩ Tryz.underlying58 Tryz.underlying126 hj (by rw [hjs];decide) hsh (Nat.zero_lt_succ 1)];simp only [Result.andThen];rw [Oper.upon_value];go_wp2;rw [run_callFunc_extern Tryz.func106 (by kernel_rfl) (by kernel_rfl) (by kernel_rfl) (e:=Extern.AbiNoEscape.same) (by kernel_rfl)];rw [Lib.run_noEscape];simp only [Result.andThen];rw [Oper.upon_value];go_wp2;rw [Lib.run_from_unsafe w ⟨b,0,none⟩ Tryz.underlying126 Tryz.underlying58 hj hsh liesBd];simp only [Result.andThen];rw [Oper.upon_value];go_wp2
 go_end0
 exact⟨rfl,rfl⟩
theorem cc_any (B pb:Nat) (t:List UInt8) (w:World) (h:Pg B pb t w) :
  Calls Tryz.prog 70 #[.pointer (some ⟨pb,0,none⟩)] w fun e w'=>e=.returned (.tuple #[])∧(Lib.BuilderAt 63 5 B pb (.pointer (some ⟨pb,0,none⟩)) (Lib.byteCells t) w'∧Kp B pb w w'):=by
 rcases h with h | h
 ·refine (ccFresh pb w h.cell0 h.shape h.frozen0).mono ?_;rintro e w' ⟨rfl,rfl⟩;exact⟨rfl,h.used _,(Kp.refl B pb w).set h.1 0 _⟩
 ·refine (ccUsed pb w h.cell0).mono ?_;rintro e w' ⟨rfl,rfl⟩;exact⟨rfl,h,Kp.refl B pb _⟩
def tPg (B pb:Nat) (t:List UInt8) (v:Value) (w:World) (e:Ending) (w':World):Prop:=e=.returned v∧Pg B pb t w'∧Kp B pb w w'
theorem cells_app (a b:List UInt8):Lib.byteCells (a++b)=Lib.byteCells a++Lib.byteCells b:=Lib.byteCells_append a b
theorem wb_any (B pb:Nat) (t:List UInt8) (c:UInt8) (w:World) (h:Pg B pb t w) (hlen:t.length+1≤140737488355328) (hBw:B≤w.heap.size) :
  Calls Tryz.prog 94 #[.pointer (some ⟨pb,0,none⟩),.int .u8 c.toNat] w (tPg B pb (t++[c]) .nilIface w):=by
 obtain⟨i0,hi,hz0,hz1,hz2⟩:=info_parts infoByte;have HLT:=Lh (Lib.byteCells_length t);have CC:=Lh (cc_any B pb t w h)
 go_enter Tryz.func94,Tryz.ntmps94
 go_wp2_with (go_at_call 70;refine CC.out.mono ?_)
 rintro e w1 ⟨rfl,h1,hk1⟩;obtain⟨hB,v,hbk,hown,hne⟩:=h1;have hK1:=Lh hk1;have hBw1:B≤w1.heap.size:=Nat.le_trans hBw hk1.size;have c0:w1.cell? ⟨pb,0,none⟩=some (.pointer (some ⟨pb,0,none⟩)):=(by rw [Lib.cell_of_heap hbk];rfl);have c1:w1.cell? ⟨pb,1,none⟩=some v:=(by rw [Lib.cell_of_heap hbk];rfl);clear hk1;go_wp2_with (at_builtin;refine wpList_append_own _ rfl _ _ 59 rfl B 5 i0 (.int .u8 0) 1 1 Tryz.underlying59 hi hz0 hz1 hz2 rfl (by decide) _ _ _ rfl (hown.alloc _) ⟨w1.heap.size,0,none⟩ 1 1 [.int .u8 c.toNat] rfl rfl ?c1 ?c2 ?c3 ?c4 ?c5 ?_)
 case c1 =>
  intro j u hj;match j,hj with
  | 0,hj=>simp at hj;subst hj;simp [Addr.add]
 case c2=>intro u hu;simp at hu;subst hu;rfl
 case c3=>have:=HLT.out;unfold maxLen;omega
 case c4=>have:=HLT.out;omega
 case c5=>simp;omega
 intro v' w2 hown' hgrow _;have hlt:pb<w1.heap.size:=by
  rcases Nat.lt_or_ge pb w1.heap.size with h' | h'
  ·exact h'
  ·simp [Array.getElem?_eq_none h'] at hbk
 have hb2:w2.heap[pb]? = some (.cells #[.pointer (some ⟨pb,0,none⟩),v] 63 (0,0)):=by
  rw [hgrow.block pb (by simp;omega) (fun e=>hne e.symm),Lib.alloc_old w1 _ pb hlt];exact hbk
 have d0:w2.cell? ⟨pb,0,none⟩=some (.pointer (some ⟨pb,0,none⟩)):=(by rw [Lib.cell_of_heap hb2];rfl);have d1:w2.cell? ⟨pb,1,none⟩=some v:=(by rw [Lib.cell_of_heap hb2];rfl);have f1:w2.frozen? ⟨pb,1,none⟩=false:=Lib.frozen_of_heap hb2 1;have hK2:Hid (Kp B pb w w2):=Lh ((hK1.out.below hBw1 ((Below.refl _ _).alloc (Nat.le_refl _) _)).grown (by simp;omega) hgrow (own_u8 (hown.alloc _)));obtain⟨g,cap,rfl⟩:∃ g cap,v'=.slice (some ⟨g,0,none⟩) ((Lib.byteCells t).length+1) cap:=by
  rcases hown'.2 with ⟨_,h0⟩ | ⟨g,cap,cur,hv,_⟩
  ·omega
  ·exact⟨g,cap,hv⟩
 go_wp2;go_ret;refine⟨rfl,Or.inr ?_,hK2.out.set hB 1 _⟩;rw [cells_app];exact Lib.BuilderAt.put (T:=63) (e:=5) hB hb2 (bs':=Lib.byteCells t++[.int .u8 c.toNat]) (by simpa using hown') nePg
theorem ws_any (B pb:Nat) (t:List UInt8) (s:ByteArray) (w:World) (h:Pg B pb t w) (hlen:t.length+s.size≤140737488355328) (hBw:B≤w.heap.size) :
  Calls Tryz.prog 42 #[.pointer (some ⟨pb,0,none⟩),.string s] w (tPg B pb (t++nmT s) (.tuple #[.int .i64 s.size,.nilIface]) w):=by
 obtain⟨i0,hi,hz0,hz1,hz2⟩:=info_parts infoByte;have HLT:=Lh (Lib.byteCells_length t);have CC:=Lh (cc_any B pb t w h)
 go_enter Tryz.func42,Tryz.ntmps42
 go_wp2_with (go_at_call 70;refine CC.out.mono ?_)
 rintro e w1 ⟨rfl,h1,hk1⟩;obtain⟨hB,v,hbk,hown,hne⟩:=h1;have hK1:=Lh hk1;have hBw1:B≤w1.heap.size:=Nat.le_trans hBw hk1.size;have c0:w1.cell? ⟨pb,0,none⟩=some (.pointer (some ⟨pb,0,none⟩)):=(by rw [Lib.cell_of_heap hbk];rfl);have c1:w1.cell? ⟨pb,1,none⟩=some v:=(by rw [Lib.cell_of_heap hbk];rfl);clear hk1;go_wp2_with (at_builtin;refine Lib.wpList_append_own_string _ rfl _ _ 59 9 rfl B 5 i0 Tryz.underlying59 Tryz.underlying9 hi hz0 hz1 hz2 _ _ _ rfl hown s rfl ?c3 ?c4 ?c5 ?_)
 case c3=>have:=HLT.out;unfold maxLen;omega
 case c4=>have:=HLT.out;omega
 case c5=>omega
 intro v' w2 hown' hgrow _;have hlt:pb<w1.heap.size:=by
  rcases Nat.lt_or_ge pb w1.heap.size with h' | h'
  ·exact h'
  ·simp [Array.getElem?_eq_none h'] at hbk
 have hb2:w2.heap[pb]? = some (.cells #[.pointer (some ⟨pb,0,none⟩),v] 63 (0,0)):=by
  rw [hgrow.block pb hlt (fun e=>hne e.symm)];exact hbk
 have d0:w2.cell? ⟨pb,0,none⟩=some (.pointer (some ⟨pb,0,none⟩)):=(by rw [Lib.cell_of_heap hb2];rfl);have d1:w2.cell? ⟨pb,1,none⟩=some v:=(by rw [Lib.cell_of_heap hb2];rfl);have f1:w2.frozen? ⟨pb,1,none⟩=false:=Lib.frozen_of_heap hb2 1;have hK2:Hid (Kp B pb w w2):=Lh (hK1.out.grown hBw1 hgrow (own_u8 hown));obtain⟨ao,n',cap,rfl⟩:∃ ao n' cap,v'=.slice ao n' cap:=by
  rcases hown'.2 with ⟨hv,_⟩ | ⟨g,cap,cur,hv,_⟩
  ·exact⟨_,_,_,hv⟩
  ·exact⟨_,_,_,hv⟩
 go_wp2;go_ret2;refine⟨rfl,Or.inr ?_,hK2.out.set hB 1 _⟩;unfold nmT;rw [cells_app,←Lib.strCells_eq];exact Lib.BuilderAt.put (T:=63) (e:=5) hB hb2 (bs':=Lib.byteCells t++Lib.strCells s) (by simpa [Lib.strCells_length] using hown') nePg
theorem usNone (W:World) (q:Option Addr):(Builtin.unsafeString_ #[89,3] 9 #[.pointer q,.int .i64 0]).run Tryz.prog W=.ok (.string .empty) W:=Lib.run_unsafeString_none W _ _ _ q
theorem str_some (B pb:Nat) (l:List UInt8) (w:World) (h:Pg B pb l w) (h0:l≠[]) :
  Calls Tryz.prog 29 #[.pointer (some ⟨pb,0,none⟩)] w fun e w'=>e=.returned (.string ⟨l.toArray⟩)∧Below B w w':=by
 obtain⟨p,hB,v,hbk,hown,hne⟩:∃ p,Lib.BuilderAt 63 5 B pb p (Lib.byteCells l) w:=by
  rcases h with h | h
  ·exact⟨_,h⟩
  ·exact⟨_,h⟩
 have hl0:l.length≠0:=(by simpa using h0);rw [Lib.byteCells_length] at hown;obtain⟨g,cap,cur,rfl,hbg,hg,hnc,hcm,hcs,htake⟩:∃ g cap cur,v=.slice (some ⟨g,0,none⟩) l.length cap∧B≤g∧w.heap[g]? = some (.cells cur 5 (0,0))∧l.length≤cap∧cap≤maxLen∧cur.size=cap*1∧cur.toList.take (l.length*1)=Lib.byteCells l:=by
  rcases hown.2 with ⟨_,hz⟩ | ⟨g,cap,cur,hv,r⟩
  ·exact absurd hz hl0
  ·exact⟨g,cap,cur,hv,r⟩
 have c1:w.drew.cell? ⟨pb,1,none⟩=some (.slice (some ⟨g,0,none⟩) l.length cap):=by
  have:w.drew.heap[pb]? = some (.cells #[p,.slice (some ⟨g,0,none⟩) l.length cap] 63 (0,0)):=hbk;rw [Lib.cell_of_heap this];rfl
 have hSD:(Builtin.unsafeSliceData_ #[59] 89 #[.slice (some ⟨g,0,none⟩) l.length cap]).run Tryz.prog w.drew=.ok (.pointer (some ⟨g,0,none⟩)) w.drew :=
  Lib.run_unsafeSliceData_row _ _ _ _ _ _ (by omega)
 have hUS:(Builtin.unsafeString_ #[89,3] 9 #[.pointer (some ⟨g,0,none⟩),.int .i64 l.length]).run Tryz.prog w.drew=.ok (.string ⟨l.toArray⟩) (w.drew.freeze ⟨g,0,none⟩ l.length):=by
  refine Lib.run_unsafeString_row w.drew 89 3 9 5 Tryz.underlying89 cellsByte g cur.size (by have hg':w.drew.heap[g]? = some (.cells cur 5 (0,0)):=hg;simp [World.shape?,hg']) l h0 (by omega) (by unfold maxLen at hcm;omega) ?_;intro j x hx;have:=hown.cells (g:=g) rfl j (.int .u8 x.toNat) (by simp [Lib.byteCells,hx]);exact this
 have HG:=Lh hg;have HT:=Lh htake;have HS:=Lh hcs;have HO:=Lh hown;have HK:=Lh hbk;clear hg htake hcs hown hbk h
 go_enter Tryz.func29,Tryz.ntmps29
 go_wp2
 go_region
 all_goals (go_wp2;go_ret;exact⟨rfl,Lib.below_freeze (Below.drew (Below.refl B w)) (p:=⟨g,0,none⟩) hbg _⟩)
theorem str_nil (B pb:Nat) (p:Value) (w:World) (hbk:w.heap[pb]? = some (.cells #[p,.slice none 0 0] 63 (0,0))) :
  Calls Tryz.prog 29 #[.pointer (some ⟨pb,0,none⟩)] w fun e w'=>e=.returned (.string ⟨#[]⟩)∧Below B w w':=by
 have hUS:=usNone;have c1:w.drew.cell? ⟨pb,1,none⟩=some (.slice none 0 0):=by
  have:w.drew.heap[pb]? = some (.cells #[p,.slice none 0 0] 63 (0,0)):=hbk;rw [Lib.cell_of_heap this];rfl
 have hSD:(Builtin.unsafeSliceData_ #[59] 89 #[.slice none 0 0]).run Tryz.prog w.drew=.ok (.pointer none) w.drew:=rfl;have HK:=Lh hbk;clear hbk
 go_enter Tryz.func29,Tryz.ntmps29
 go_wp2
 go_region
 all_goals (go_wp2;go_ret;exact⟨rfl,Below.drew (Below.refl B w)⟩)
theorem str_noroom (B pb g:Nat) (p:Value) (cur:Array Value) (w:World) (hBw:B≤w.heap.size) (hbk:w.heap[pb]? = some (.cells #[p,.slice (some ⟨g,0,none⟩) 0 0] 63 (0,0))) (hg:w.heap[g]? = some (.cells cur 5 (0,0))) :
  Calls Tryz.prog 29 #[.pointer (some ⟨pb,0,none⟩)] w fun e w'=>e=.returned (.string ⟨#[]⟩)∧Below B w w':=by
 have hUS:=usNone;have hlt:pb<w.heap.size:=by
  rcases Nat.lt_or_ge pb w.heap.size with h' | h'
  ·exact h'
  ·simp [Array.getElem?_eq_none h'] at hbk
 have c1:w.drew.cell? ⟨pb,1,none⟩=some (.slice (some ⟨g,0,none⟩) 0 0):=by
  have:w.drew.heap[pb]? = some (.cells #[p,.slice (some ⟨g,0,none⟩) 0 0] 63 (0,0)):=hbk;rw [Lib.cell_of_heap this];rfl
 have hSD:(Builtin.unsafeSliceData_ #[59] 89 #[.slice (some ⟨g,0,none⟩) 0 0]).run Tryz.prog w.drew=.ok (.pointer (some ⟨w.drew.heap.size,0,none⟩)) (w.drew.alloc (.view ⟨g,0,none⟩ 5)) :=
  Lib.run_unsafeSliceData_zero w.drew _ _ 5 Tryz.underlying89 ⟨g,0,none⟩ 0 (5,cur.size) (by have hg':w.drew.heap[g]? = some (.cells cur 5 (0,0)):=hg;simp [World.shape?,hg'])
 have c2:(w.drew.alloc (.view ⟨g,0,none⟩ 5)).cell? ⟨pb,1,none⟩=some (.slice (some ⟨g,0,none⟩) 0 0):=by
  have:(w.drew.alloc (.view ⟨g,0,none⟩ 5)).heap[pb]? = _:=(Lib.alloc_old w.drew _ pb hlt).trans hbk;rw [Lib.cell_of_heap this];rfl
 have c3:(w.alloc (.view ⟨g,0,none⟩ 5)).drew.cell? ⟨pb,1,none⟩=some (.slice (some ⟨g,0,none⟩) 0 0):=c2;have c0:w.cell? ⟨pb,1,none⟩=some (.slice (some ⟨g,0,none⟩) 0 0):=c1;have HK:=Lh hbk;have HG:=Lh hg;clear hbk hg
 go_enter Tryz.func29,Tryz.ntmps29
 go_wp2
 go_region
 all_goals (go_wp2;go_ret;exact⟨rfl,(Below.drew (Below.refl B w)).alloc hBw _⟩)
theorem str_room (B pb g cap:Nat) (p:Value) (w:World) (hc0:cap≠0) (hbk:w.heap[pb]? = some (.cells #[p,.slice (some ⟨g,0,none⟩) 0 cap] 63 (0,0))) :
  Calls Tryz.prog 29 #[.pointer (some ⟨pb,0,none⟩)] w fun e w'=>e=.returned (.string ⟨#[]⟩)∧Below B w w':=by
 have hUS:=usNone;have c1:w.drew.cell? ⟨pb,1,none⟩=some (.slice (some ⟨g,0,none⟩) 0 cap):=by
  have:w.drew.heap[pb]? = some (.cells #[p,.slice (some ⟨g,0,none⟩) 0 cap] 63 (0,0)):=hbk;rw [Lib.cell_of_heap this];rfl
 have hSD:(Builtin.unsafeSliceData_ #[59] 89 #[.slice (some ⟨g,0,none⟩) 0 cap]).run Tryz.prog w.drew=.ok (.pointer (some ⟨g,0,none⟩)) w.drew :=
  Lib.run_unsafeSliceData_row _ _ _ _ _ _ hc0
 have HK:=Lh hbk;clear hc0 hbk
 go_enter Tryz.func29,Tryz.ntmps29
 go_wp2
 go_region
 all_goals (go_wp2;go_ret;exact⟨rfl,Below.drew (Below.refl B w)⟩)
theorem str_any (B pb:Nat) (l:List UInt8) (w:World) (h:Pg B pb l w) (hBw:B≤w.heap.size) :
  Calls Tryz.prog 29 #[.pointer (some ⟨pb,0,none⟩)] w fun e w'=>e=.returned (.string ⟨l.toArray⟩)∧Below B w w':=by
 cases l with
 | cons x r=>exact str_some B pb (x::r) w h (by simp)
 | nil =>
  obtain⟨p,hB,v,hbk,hown,hne⟩:∃ p,Lib.BuilderAt 63 5 B pb p [] w:=by
   rcases h with h | h
   ·exact⟨_,h⟩
   ·exact⟨_,h⟩
  rcases hown.2 with ⟨rfl,_⟩ | ⟨g,cap,cur,rfl,hbg,hg,_,_,_,_⟩
  ·exact str_nil B pb p w hbk
  ·by_cases hc0:cap=0
   ·subst hc0;exact str_noroom B pb g p cur w hBw hbk hg
   ·exact str_room B pb g cap p w hc0 hbk
end CtW
namespace CtW
open Go Go.RowKit Go.Shelf NumM LexW ExW ItW LexM ExM EtM ItM CtM
theorem rep_bl (k:Nat):Lib.repeatL [32,32,32,32] k=bl k:=by
 induction k with
 | zero=>rfl
 | succ k ih =>
  have e:bl (k+1)=[32,32,32,32]++bl k:=(by unfold bl;rw [show 4*(k+1)=4+4*k by omega,←List.replicate_append_replicate];rfl);rw [e,←ih];rfl
theorem bl_len (k:Nat):(bl k).length=4*k:=by unfold bl;simp
theorem repeat_any (k:Nat) (w:World) (hk:k≤1000):Calls Tryz.prog 93 #[.string ⟨#[32,32,32,32]⟩,.int .i64 k] w fun e w'=>e=.returned (.string ⟨(bl k).toArray⟩)∧Below w.heap.size w w':=by
 have h:=Tryz.strings_Repeat ⟨#[32,32,32,32]⟩ k w (by omega) (by show 4*k≤_;omega);have e:(⟨#[32,32,32,32]⟩:ByteArray).data.toList=[32,32,32,32]:=rfl;rw [e,rep_bl] at h;exact h
def cat (ps:List ByteArray):List UInt8:=ps.flatMap nmT
theorem cat_take {ps:List ByteArray} {j:Nat} {x:ByteArray} (h:ps[j]? = some x):cat (ps.take (j+1))=cat (ps.take j)++nmT x:=by
 obtain⟨hj,he⟩:=List.getElem?_eq_some_iff.1 h;unfold cat;rw [List.take_succ_eq_append_getElem hj,List.flatMap_append,he];simp
theorem cat_le (ps:List ByteArray) (j:Nat):(cat (ps.take j)).length≤(cat ps).length:=by
 have e:cat ps=cat (ps.take j)++cat (ps.drop j):=by
  unfold cat;rw [←List.flatMap_append,List.take_append_drop]
 rw [e,List.length_append];omega
theorem line_any (B pb g k n:Nat) (t:List UInt8) (ps:List ByteArray) (w:World) (hP:Pg B pb t w) (hB:B≤w.heap.size) (hk:k≤100)
  (hg:w.heap[g]? = some (.cells (ps.map Value.string).toArray 9 (0,0))) (hn:ps.length=n) (hn9:n≤100) (hlen:t.length+4*k+(cat ps).length+1≤140737488355328) :
  Calls Tryz.prog 60 #[.pointer (some ⟨pb,0,none⟩),.int .i64 k,.slice (some ⟨g,0,none⟩) n n] w (tPg B pb (t++(bl k++(cat ps++[10]))) (.tuple #[]) w):=by
 have hgp:g≠pb:=fun e=>by
  subst e;rcases hP with ⟨_,v,h,_⟩ | ⟨_,v,h,_⟩<;>rw [h] at hg<;>simp only [Option.some.injEq,Obj.cells.injEq] at hg<;>exact absurd hg.2.1 (by decide)
 have RC:Hid (∀ W,Calls Tryz.prog 93 #[.string ⟨#[32,32,32,32]⟩,.int .i64 k] W fun e w'=>e=.returned (.string ⟨(bl k).toArray⟩)∧Below W.heap.size W w'):=(Lh fun W=>repeat_any k W (by omega));have WC:Hid (∀ W,Below w.heap.size w W→Calls Tryz.prog 42 #[.pointer (some ⟨pb,0,none⟩),.string ⟨(bl k).toArray⟩] W (tPg B pb (t++bl k) (.tuple #[.int .i64 ((⟨(bl k).toArray⟩:ByteArray).size:Int),.nilIface]) W)):=Lh fun W hW =>
  ws_any B pb t ⟨(bl k).toArray⟩ W (hP.stay hW) (by show _+(bl k).length≤_;rw [bl_len];omega) (Nat.le_trans hB hW.size)
 have hP0:=hP.lo;have HP:=Lh hP;have HG:=Lh hg;have HN:=Lh hn;have HL:=Lh hlen;clear hP hg hn hlen;generalize hz:((⟨(bl k).toArray⟩:ByteArray).size:Int)=z at WC;clear hz;have CEL:Hid (∀ W,Kp B pb w W→∀ (j:Nat) (x:ByteArray),ps[j]? = some x→W.cell? ⟨g,j,none⟩=some (.string x)):=Lh fun W hW j x hx=>by
  rw [Lib.cell_of_heap (hW.blk _ _ _ _ HG.out hgp (by decide))];simp [hx]
 go_enter Tryz.func60,Tryz.ntmps60
 go_upto_region 1 with fail
 go_cut [] (fun wx=>Hid (Pg B pb (t++bl k) wx)∧Hid (Kp B pb w wx))
 case first =>
  go_region_law (go_simp;first
   |(go_at_call 93;((with_reducible refine (RC.out _).mono ?_);rintro e w1 ⟨rfl,hb1⟩;have HB1:Hid (Below w.heap.size w w1):=Lh (by first | exact hb1 | exact (Below.refl _ _).drew.trans hb1);clear hb1))
   |(go_at_call 42;((with_reducible refine (WC.out _ HB1.out).mono ?_);rintro e w2 ⟨rfl,hp2,hk2⟩;have HP2:=Lh hp2;have HK2:=Lh ((((Kp.refl B pb w).below hB HB1.out)).trans hk2);clear hp2 hk2)))
  all_goals
   go_wp2_with fail
   go_meet
   exact⟨HP2,HK2⟩
 case rest =>
  obtain⟨PX,KX⟩:=hcut;go_wp2;go_loopw [16] (fun i wr=>∃ j:Nat,j≤n∧i=.int .i64 j∧Hid (Pg B pb (t++(bl k++cat (ps.take j))) wr)∧Hid (Kp B pb w wr)) (fun i _=>n - (intOf i).toNat)
  case atStart=>exact⟨0,Nat.zero_le _,rfl,Lh (by have:=PX.out;simpa [cat] using this),KX⟩
  case round =>
   obtain⟨j,hj,rfl,PW,KW⟩:=hrel;have hBr:B≤wr.heap.size:=Nat.le_trans hB KW.out.size;by_cases hlt:j<n
   ·obtain⟨x,hx⟩:∃ x,ps[j]? = some x:=⟨_,List.getElem?_eq_getElem (by rw [HN.out];exact hlt)⟩;have cx:=CEL.out wr KW.out j x hx;have CT:=Lh (cat_take hx);have WX:Hid (Calls Tryz.prog 42 #[.pointer (some ⟨pb,0,none⟩),.string x] wr (tPg B pb (t++(bl k++cat (ps.take (j+1)))) (.tuple #[.int .i64 (x.size:Int),.nilIface]) wr)):=Lh (by
     have h1:=cat_le ps (j+1);have h2:=HL.out;have:=ws_any B pb (t++(bl k++cat (ps.take j))) x wr PW.out (by
      rw [CT.out,List.length_append] at h1;have h3:(nmT x).length=x.size:=(by unfold nmT;exact len_data x);rw [List.length_append,List.length_append,bl_len];omega) hBr
     rw [CT.out]
     simpa [List.append_assoc] using this)
    clear hx;go_wp2_with (go_at_call 42;((with_reducible refine WX.out.mono ?_);rintro e w2 ⟨rfl,hp2,hk2⟩;have HP2:=Lh hp2;have HK2:=Lh (KW.out.trans hk2);clear hp2 hk2))
    go_roundw
    case rel=>exact⟨j+1,by omega,by go_num,HP2,HK2⟩
    case measure=>simp [intOf];omega
   ·obtain rfl:j=n:=(by omega);have WX:Hid (Calls Tryz.prog 94 #[.pointer (some ⟨pb,0,none⟩),.int .u8 10] wr (tPg B pb (t++(bl k++(cat ps++[10]))) .nilIface wr)):=Lh (by
     have h2:=HL.out;have h3:=PW.out;rw [List.take_of_length_le (by rw [HN.out];exact Nat.le_refl _)] at h3;have:=wb_any B pb _ 10 wr h3 (by rw [List.length_append,List.length_append,bl_len];omega) hBr
     simpa [List.append_assoc] using this)
    go_wp2_with (go_at_call 94;((with_reducible refine WX.out.mono ?_);rintro e w2 ⟨rfl,hp2,hk2⟩;have HP2:=Lh hp2;have HK2:=Lh (KW.out.trans hk2);clear hp2 hk2))
    go_end0
    exact⟨rfl,HP2.out,HK2.out⟩
end CtW
namespace ExW
open Go Go.RowKit NumM LexW LexM ExM
open Classical in
noncomputable def eqB (a b:Ex):Bool:=decide (a=b)
open Classical in
noncomputable def eqL (a b:List Ex):Bool:=decide (a=b)
theorem eqB_mk (o n:Int) (s:ByteArray) (ks:List Ex) (o' n':Int) (s':ByteArray) (ks':List Ex):eqB (.mk o n s ks) (.mk o' n' s' ks')=((o == o')&&((n == n')&&((s.toList == s'.toList)&&eqL ks ks'))):=by
 unfold eqB eqL;rw [Bool.eq_iff_iff,Lib.toList_data,Lib.toList_data];simp only [decide_eq_true_eq,Bool.and_eq_true,beq_iff_eq,Ex.mk.injEq];constructor
 ·rintro ⟨rfl,rfl,rfl,rfl⟩;exact⟨rfl,rfl,rfl,rfl⟩
 ·rintro ⟨h1,h2,h3,h4⟩;exact⟨h1,h2,bs_inj h3,h4⟩
theorem eqL_len {a b:List Ex} (h:a.length≠b.length):eqL a b=false:=by
 unfold eqL;rw [decide_eq_false_iff_not];rintro rfl;exact h rfl
theorem eqL_no {a b:List Ex} {i:Nat} {x y:Ex} (h:a[i]? = some x) (g:b[i]? = some y) (k:eqB x y=false):eqL a b=false:=by
 unfold eqL eqB at *;rw [decide_eq_false_iff_not] at *;rintro rfl;rw [h] at g;exact k (Option.some.inj g)
open Classical in
theorem eqL_yes {a b:List Ex} (hl:a.length=b.length) (h:∀ (i:Nat) (x y:Ex),i<a.length→a[i]? = some x→b[i]? = some y→eqB x y=true):eqL a b=true:=by
 unfold eqL;refine decide_eq_true ?_;apply List.ext_getElem hl;intro i h1 h2;have:=h i _ _ h1 (List.getElem?_eq_getElem h1) (List.getElem?_eq_getElem h2);exact of_decide_eq_true this
def eqRow (f:FuncId) (ks ks':List Ex) (N:Nat) (w:World):Prop :=
 ∀ a∈ks,∀ b∈ks',∀ W va vb,Below w.heap.size w W→ExAt N W va a→ExAt N W vb b→Calls Tryz.prog f #[va,vb] W (tBool (eqB a b) W)
theorem equal_any (ks ks':List Ex) (pl pl':Nat→Option Addr) (cl cl':Nat→Nat) (p p':Option Addr) (cap cap' N:Nat) (w:World) (ha:ArgsAt N w p cap pl cl ks) (hb:ArgsAt N w p' cap' pl' cl' ks') (hN:N≤w.heap.size) (hk:ks.length≤2000000)
  (hc:eqRow 109 ks ks' N w) :
  Calls Tryz.prog 128 #[.slice p ks.length cap,.slice p' ks'.length cap',.func (.func 109) #[] #[]] w (tBool (eqL ks ks') w):=by
 have HA:=Lh ha;have HB:=Lh hb;have HC:=Lh hc;have hkb:=hb.hl;have HB0:=Lh (Below.refl w.heap.size w);by_cases hl:ks.length=ks'.length
 ·have HL:=Lh hl;obtain⟨K,hK⟩:∃ K,ks.length=K:=⟨_,rfl⟩;have HK:=Lh hK;rw [←hl,hK];rw [hK] at hk;clear hK ha hb hc hl hkb
  go_enter Tryz.func128,Tryz.ntmps128
  go_wp2;go_loopw [17] (fun i wr=>∃ j:Nat,j≤K∧i=.int .i64 j∧Hid (∀ (i:Nat) (x y:Ex),i<j→ks[i]? = some x→ks'[i]? = some y→eqB x y=true)∧Hid (Below w.heap.size w wr)) (fun i _=>K - (intOf i).toNat)
  case atStart=>exact⟨0,Nat.zero_le _,rfl,Lh (fun i _ _ h=>by omega),HB0⟩
  case round =>
   obtain⟨j,hj,rfl,AL,BW⟩:=hrel;by_cases hlt:j<K
   ·obtain⟨b,off,rfl,hbs,hcell⟩:=HA.out.hp (by rw [HK.out];omega);obtain⟨b',off',rfl,hbs',hcell'⟩:=HB.out.hp (by rw [←HL.out,HK.out];omega);obtain⟨a,hak⟩:∃ a,ks[j]? = some a:=⟨_,List.getElem?_eq_getElem (by rw [HK.out];exact hlt)⟩;obtain⟨d,hdk⟩:∃ d,ks'[j]? = some d:=⟨_,List.getElem?_eq_getElem (by rw [←HL.out,HK.out];exact hlt)⟩;obtain⟨q0,q1,q2,q3⟩:=hcell j a hak;obtain⟨r0,r1,r2,r3⟩:=hcell' j d hdk;have hbw:Below N w wr:=BW.out.mono hN;have hbA:∀ v,Below wr.heap.size wr (wr.alloc v):=(fun v=>(Below.refl _ _).alloc (Nat.le_refl _) _);have ca0:wr.cell? ⟨b,off+j*4,none⟩=some (.int .i64 a.op):=(by rw [hbw.cell hbs];exact q0);have ca1:wr.cell? ⟨b,off+j*4+1,none⟩=some (.int .i64 a.n):=(by rw [hbw.cell hbs];exact q1);have ca2:wr.cell? ⟨b,off+j*4+2,none⟩=some (.string a.nm):=(by rw [hbw.cell hbs];exact q2);have ca3:wr.cell? ⟨b,off+j*4+3,none⟩=some (.slice (pl j) a.args.length (cl j)):=(by rw [hbw.cell hbs];exact q3);have cb0:∀ v,(wr.alloc v).cell? ⟨b',off'+j*4,none⟩=some (.int .i64 d.op):=(fun v=>by rw [(hbw.trans ((hbA v).mono (by have:=BW.out.size;omega))).cell hbs'];exact r0);have cb1:∀ v,(wr.alloc v).cell? ⟨b',off'+j*4+1,none⟩=some (.int .i64 d.n):=(fun v=>by rw [(hbw.trans ((hbA v).mono (by have:=BW.out.size;omega))).cell hbs'];exact r1);have cb2:∀ v,(wr.alloc v).cell? ⟨b',off'+j*4+2,none⟩=some (.string d.nm):=(fun v=>by rw [(hbw.trans ((hbA v).mono (by have:=BW.out.size;omega))).cell hbs'];exact r2);have cb3:∀ v,(wr.alloc v).cell? ⟨b',off'+j*4+3,none⟩=some (.slice (pl' j) d.args.length (cl' j)):=(fun v=>by rw [(hbw.trans ((hbA v).mono (by have:=BW.out.size;omega))).cell hbs'];exact r3);have hxa:=HA.out.hx j a hak;have hxb:=HB.out.hx j d hdk;have HCA:Hid (∀ W,Below w.heap.size w W→Calls Tryz.prog 109 #[xv a.op a.n a.nm (.slice (pl j) a.args.length (cl j)),xv d.op d.n d.nm (.slice (pl' j) d.args.length (cl' j))] W (tBool (eqB a d) W)):=(Lh fun W hb=>HC.out a (List.mem_of_getElem? hak) d (List.mem_of_getElem? hdk) W _ _ hb (hxa.under (hb.mono hN)) (hxb.under (hb.mono hN)));have HAK:=Lh hak;have HDK:=Lh hdk;obtain⟨v,hv⟩:∃ v,eqB a d=v:=⟨_,rfl⟩;have HV:=Lh hv;rw [hv] at HCA;obtain⟨ao,hao⟩:∃ x,a.op=x:=⟨_,rfl⟩;obtain⟨an,han⟩:∃ x,a.n=x:=⟨_,rfl⟩;obtain⟨am,ham⟩:∃ x,a.nm=x:=⟨_,rfl⟩;obtain⟨ak,hka⟩:∃ x,a.args.length=x:=⟨_,rfl⟩;obtain⟨ap,hap⟩:∃ x,pl j=x:=⟨_,rfl⟩;obtain⟨ac,hac⟩:∃ x,cl j=x:=⟨_,rfl⟩;obtain⟨bo,hbo⟩:∃ x,d.op=x:=⟨_,rfl⟩;obtain⟨bn,hbn⟩:∃ x,d.n=x:=⟨_,rfl⟩;obtain⟨bm,hbm⟩:∃ x,d.nm=x:=⟨_,rfl⟩;obtain⟨bk,hbk⟩:∃ x,d.args.length=x:=⟨_,rfl⟩;obtain⟨bp,hbp⟩:∃ x,pl' j=x:=⟨_,rfl⟩;obtain⟨bc,hbc⟩:∃ x,cl' j=x:=⟨_,rfl⟩;rw [hao] at ca0 HCA;rw [han] at ca1 HCA;rw [ham] at ca2 HCA;rw [hka,hap,hac] at ca3 HCA;rw [hbo] at cb0 HCA;rw [hbn] at cb1 HCA;rw [hbm] at cb2 HCA;rw [hbk,hbp,hbc] at cb3 HCA;have db0:=cb0 (.cells #[.int .i64 ao,.int .i64 an,.string am,.slice ap ak ac] 51);have db1:=cb1 (.cells #[.int .i64 ao,.int .i64 an,.string am,.slice ap ak ac] 51);have db2:=cb2 (.cells #[.int .i64 ao,.int .i64 an,.string am,.slice ap ak ac] 51);have db3:=cb3 (.cells #[.int .i64 ao,.int .i64 an,.string am,.slice ap ak ac] 51);have FA:=(Four.new wr (.int .i64 ao) (.int .i64 an) (.string am) (.slice ap ak ac) 51).alloc (.cells #[.int .i64 bo,.int .i64 bn,.string bm,.slice bp bk bc] 51);have FB:=Four.new (wr.alloc (.cells #[.int .i64 ao,.int .i64 an,.string am,.slice ap ak ac] 51)) (.int .i64 bo) (.int .i64 bn) (.string bm) (.slice bp bk bc) 51;rw [World.size_alloc] at FB;have e0:=FA.c0;have e1:=FA.c1;have e2:=FA.c2;have e3:=FA.c3;have g0:=FB.c0;have g1:=FB.c1;have g2:=FB.c2;have g3:=FB.c3;have HB2:Hid (Below w.heap.size w ((wr.alloc (.cells #[.int .i64 ao,.int .i64 an,.string am,.slice ap ak ac] 51)).alloc (.cells #[.int .i64 bo,.int .i64 bn,.string bm,.slice bp bk bc] 51))):=Lh ((BW.out.alloc BW.out.size _).alloc (by have:=BW.out.size;simp;omega) _);have CC:=Lh (HCA.out _ HB2.out);clear hcell q0 q1 q2 q3 hcell' r0 r1 r2 r3 hbw hak hdk hao han ham hka hap hac hbo hbn hbm hbk hbp hbc cb0 cb1 cb2 cb3 hxa hxb hbA FA FB HCA hv;cases v
    ·go_wp2_with (go_at_call 109;((with_reducible refine CC.out.mono ?_);rintro e w5 ⟨rfl,hb⟩;have HB5:=Lh (HB2.out.then_ hb);clear hb))
     go_ret;exact tBool_mk (eqL_no HAK.out HDK.out HV.out).symm HB5.out
    ·go_wp2_with (go_at_call 109;((with_reducible refine CC.out.mono ?_);rintro e w5 ⟨rfl,hb⟩;have HB5:=Lh (HB2.out.then_ hb);clear hb))
     go_roundw
     case rel=>exact⟨j+1,by omega,by go_num,Lh (fun i x y hi hx hy=>by
      rcases Nat.lt_or_ge i j with h | h
      ·exact AL.out i x y h hx hy
      ·obtain rfl:i=j:=(by omega);rw [HAK.out] at hx;rw [HDK.out] at hy;cases hx;cases hy;exact HV.out),HB5⟩
     case measure=>simp [intOf];omega
   ·have AL2:=Lh (eqL_yes HL.out (fun i x y hi=>AL.out i x y (by rw [HK.out] at hi;omega)));go_wp2;go_ret;exact tBool_mk AL2.out.symm BW.out
 ·have HE:=Lh (eqL_len hl);obtain⟨K,hK⟩:∃ K,ks.length=K:=⟨_,rfl⟩;obtain⟨L,hL⟩:∃ L,ks'.length=L:=⟨_,rfl⟩;rw [hK,hL];rw [hK,hL] at hl;have h0:((K:Int) == (L:Int))=false:=(by rw [beq_eq_false_iff_ne];omega);clear hl hK hL ha hb hc hk hkb
  go_enter Tryz.func128,Tryz.ntmps128
  go_wp2;go_ret;exact tBool_mk HE.out.symm HB0.out
theorem same_any (a:Ex):∀ (b:Ex) (N:Nat) (w:World) (va vb:Value),ExAt N w va a→ExAt N w vb b→N≤w.heap.size→sz a≤2000000→Calls Tryz.prog 109 #[va,vb] w (tBool (eqB a b) w):=by
 induction a using Ex.ind with
 | h o n s ks ih =>
  intro b N w va vb hx hy hN hsz;obtain⟨o',n',s',ks'⟩:=b;obtain⟨p,cap,pl,cl,rfl,hs,ha⟩:=hx.form;obtain⟨p',cap',pl',cl',rfl,hs',hb⟩:=hy.form;simp only [Ex.op,Ex.n,Ex.nm,Ex.args] at hs ha hs' hb ⊢;rw [sz_mk] at hsz;have hl:=len_szs ks;have EE:=Lh (eqB_mk o n s ks o' n' s' ks');have hb1:Below w.heap.size w ((w.alloc (.cells #[.int .i64 o,.int .i64 n,.string s,.slice p ks.length cap] 51)).alloc (.cells #[.int .i64 o',.int .i64 n',.string s',.slice p' ks'.length cap'] 51)):=((Below.refl _ _).alloc (Nat.le_refl _) _).alloc (by simp) _;have CC:=Lh (equal_any ks ks' pl pl' cl cl' p p' cap cap' N _ (ha.under (hb1.mono hN)) (hb.under (hb1.mono hN)) (by have:=hb1.size;omega) (by omega) (fun a ha' b hb' W va vb hW hxa hxb=>ih a ha' b N W va vb hxa hxb (by have:=hW.size;have:=hb1.size;omega) (by have:=sz_mem ha';omega)));have FA:=(Four.new w (.int .i64 o) (.int .i64 n) (.string s) (.slice p ks.length cap) 51).alloc (.cells #[.int .i64 o',.int .i64 n',.string s',.slice p' ks'.length cap'] 51);have FB:=Four.new (w.alloc (.cells #[.int .i64 o,.int .i64 n,.string s,.slice p ks.length cap] 51)) (.int .i64 o') (.int .i64 n') (.string s') (.slice p' ks'.length cap') 51;rw [World.size_alloc] at FB;have HB1:=Lh hb1;clear ha hb hx hy ih hb1 hs hs' hsz hl;generalize ks.length=K at *
  generalize ks'.length=K' at *
  generalize eqL ks ks'=q at *
  have e0:=FA.c0;have e1:=FA.c1;have e2:=FA.c2;have e3:=FA.c3;have g0:=FB.c0;have g1:=FB.c1;have g2:=FB.c2;have g3:=FB.c3;clear FA FB;cases h1:(o == o')<;>cases h2:(n == n')<;>cases h3:(s.toList == s'.toList)
  all_goals
   rw [h1,h2,h3] at EE
   go_enter Tryz.func109,Tryz.ntmps109
   go_wp2_with (go_at_call 128;((with_reducible refine CC.out.mono ?_);rintro e w5 ⟨rfl,hb⟩;have HB5:=Lh (HB1.out.then_ hb);clear hb))
   go_ret;first
    | exact tBool_mk (by rw [EE.out];rfl) HB5.out
    | exact tBool_mk (by rw [EE.out];rfl) HB1.out
end ExW
namespace ItW
open Go Go.RowKit NumM LexW LexM ExM ExW ItM
structure Blk (w:World) (g:Nat) (xs:List Value):Prop where
 lt:g<w.heap.size
 c:∀ (i:Nat) (x:Value),xs[i]? = some x→w.cell? ⟨g,i,none⟩=some x
 f:∀ o:Nat,w.frozen? ⟨g,o,none⟩=false
section
variable {w W0:World} {g:Nat} {xs:List Value}
theorem Blk.new (w:World) (xs:List Value) (t:TypeId):Blk (w.alloc (.cells xs.toArray t)) w.heap.size xs:=by
 have hb:(w.alloc (.cells xs.toArray t)).heap[w.heap.size]? = some (.cells xs.toArray t):=heap_alloc_new _ _;exact⟨by simp,fun i x hx=>(alloc_cells w xs.toArray t i x (by simpa using hx)).1,fun o=>by simp only [World.frozen?,hb];simp⟩
theorem Blk.at_ {n:Nat} (hn:w.heap.size=n) (xs:List Value) (t:TypeId):Blk (w.alloc (.cells xs.toArray t)) n xs:=by subst hn;exact Blk.new w xs t
theorem Blk.stay (h:Blk W0 g xs) (hb:Below W0.heap.size W0 w):Blk w g xs :=
 ⟨Nat.lt_of_lt_of_le h.lt hb.size,fun i x hx=>(hb.cell (p:=⟨g,i,none⟩) h.lt).trans (h.c i x hx),fun o=>(hb.frozen (p:=⟨g,o,none⟩) h.lt).trans (h.f o)⟩
theorem Blk.alloc (h:Blk w g xs) (o:Obj):Blk (w.alloc o) g xs:=h.stay ((Below.refl _ _).alloc (Nat.le_refl _) _)
theorem Blk.set (h:Blk w g xs) (i:Nat) (v:Value) (hi:i<xs.length):Blk (w.setCell ⟨g,i,none⟩ v) g (xs.set i v):=by
 refine⟨by rw [setCell_size];exact h.lt,fun j x hx=>?_,fun o=>by rw [World.frozen?_setCell];exact h.f o⟩;rw [List.getElem?_set] at hx;split at hx
 ·rename_i e;subst e;obtain rfl:v=x:=(by simpa [hi] using hx);exact cell_set (h.c i _ (List.getElem?_eq_getElem hi))
 ·rename_i e;rw [other _ _ e];exact h.c j x hx
theorem Blk.grown {row:Option Nat} {w':World} (h:Blk w g xs) (hg:w.grownBy w' row) (hr:some g≠row):Blk w' g xs:=by
 have hb:=hg.block g h.lt hr;exact⟨Nat.lt_of_lt_of_le h.lt hg.size,fun i x hx=>(World.cell?_of_block (w:=w) hb).trans (h.c i x hx),fun o=>(World.frozen?_of_block (w:=w) hb).trans (h.f o)⟩
end
theorem ba (w:World) (o:Obj):Below w.heap.size w (w.alloc o):=(Below.refl _ _).alloc (Nat.le_refl _) _
abbrev ics (kd o n:Int) (en:ByteArray) (a4:Value) (nm ix:ByteArray) (a7 a8 a9 a10 a11:Value):List Value :=
 [.int .i64 kd,.int .i64 o,.int .i64 n,.string en,a4,.string nm,.string ix,a7,a8,a9,a10,a11]
theorem isEmp_toList (s:ByteArray):s.toList.isEmpty=isEmp s:=by unfold isEmp;exact str_empty s
theorem isEmpty_len {α:Type} (l:List α):l.isEmpty=decide (l.length=0):=by cases l<;>simp
theorem eqB_zE (e:Ex):eqB e zE=zB e:=by
 obtain⟨o,n,s,ks⟩:=e;unfold zE zB;rw [eqB_mk];have h1:eqL ks []=ks.isEmpty:=by
  unfold eqL;rw [Bool.eq_iff_iff];cases ks<;>simp
 have h2:(s.toList == (⟨#[]⟩:ByteArray).toList)=isEmp s:=by
  rw [←isEmp_toList,Lib.toList_data ⟨#[]⟩];cases h:s.toList<;>rfl
 rw [h1,h2];rfl
end ItW
namespace CtW
open Go Go.RowKit Go.Shelf NumM LexW ExW ItW LexM ExM EtM EtW ItM CtM
open ClM (Fld fieldE)
def tS (l:List UInt8) (w:World) (e:Ending) (w':World):Prop:=e=.returned (.string (mb l))∧Below w.heap.size w w'
theorem tS_mk {l:List UInt8} {w w':World} {s:ByteArray} (h:s.data.toList=l) (hb:Below w.heap.size w w'):tS l w (.returned (.string s)) w':=⟨by rw [←h],hb⟩
def I64 (n:Int):Prop:=-9223372036854775808≤n∧n≤9223372036854775807
theorem fmt_any (n : Int) (w : World) (h : I64 n) (ht : Lib.TabIs Tryz.prog w "internal/strconv.uint64pow10" .u64 Lib.pow10Tab) : Calls Tryz.prog 40 #[.int .i64 n] w (tS (Lib.itoa n) w) := PackW.formatCode_any n w h.1 h.2 ht
theorem itoa_le {n:Int} (h:I64 n):(Lib.itoa n).length≤21:=Lib.itoa_length_le n h.1 h.2
theorem pow_later {w w' : World} (h : Lib.TabIs Tryz.prog w "internal/strconv.uint64pow10" .u64 Lib.pow10Tab) (hb : Below w.heap.size w w') : Lib.TabIs Tryz.prog w' "internal/strconv.uint64pow10" .u64 Lib.pow10Tab := var_later (by kernel_rfl : Tryz.prog.globalNamed "internal/strconv.uint64pow10" = some 1) h hb
abbrev Pow (w : World) : Prop := Lib.TabIs Tryz.prog w "internal/strconv.uint64pow10" .u64 Lib.pow10Tab
def okI (t:Wt):Prop:=I64 t.lo∧I64 t.hi∧I64 t.wt
theorem weightText_any (t:Wt) (w:World) (hb:okI t) (ht:Pow w) :
  Calls Tryz.prog 23 #[.agg #[.int .i64 t.lo,.int .i64 t.hi,.int .i64 t.wt,.bool t.ea]] w (tS (wtT t) w):=by
 obtain⟨lo,hi,wt,ea⟩:=t;obtain⟨h1,h2,h3⟩:=hb;simp only at h1 h2 h3 ⊢;have W1:Below w.heap.size w (w.alloc (.cells #[.int .i64 lo,.int .i64 hi,.int .i64 wt,.bool ea] 45)):=(Below.refl _ _).alloc (Nat.le_refl _) _;have F1:=Four.new w (.int .i64 lo) (.int .i64 hi) (.int .i64 wt) (.bool ea) 45;have FL:Hid (∀ W,Below w.heap.size w W→Calls Tryz.prog 40 #[.int .i64 lo] W (tS (Lib.itoa lo) W)):=(Lh fun W hW=>fmt_any lo W h1 (pow_later ht hW));have FH:Hid (∀ W,Below w.heap.size w W→Calls Tryz.prog 40 #[.int .i64 hi] W (tS (Lib.itoa hi) W)):=(Lh fun W hW=>fmt_any hi W h2 (pow_later ht hW));have FW:Hid (∀ W,Below w.heap.size w W→Calls Tryz.prog 40 #[.int .i64 wt] W (tS (Lib.itoa wt) W)):=(Lh fun W hW=>fmt_any wt W h3 (pow_later ht hW));have EE:Hid (wtT ⟨lo,hi,wt,ea⟩=Lib.itoa lo++((if hi≠lo then 32::46::46::32::Lib.itoa hi else [])++(32::58::(if ea then 61 else 47)::32::Lib.itoa wt))):=Lh rfl;have z1:=itoa_le h1;have z2:=itoa_le h2;have z3:=itoa_le h3;rw [EE.out];clear EE;obtain⟨L,hL⟩:∃ x,Lib.itoa lo=x:=⟨_,rfl⟩;obtain⟨H,hH⟩:∃ x,Lib.itoa hi=x:=⟨_,rfl⟩;obtain⟨Q,hQ⟩:∃ x,Lib.itoa wt=x:=⟨_,rfl⟩;rw [hL] at FL z1 ⊢;rw [hH] at FH z2 ⊢;rw [hQ] at FW z3 ⊢;have y1:(mb L).size≤21:=z1;have y2:(mb H).size≤21:=z2;have y3:(mb Q).size≤21:=z3;have HW1:=Lh W1;have HF1:=Lh F1;have c0:=F1.c0;have c1:=F1.c1;have c2:=F1.c2;have c3:=F1.c3;clear hL hH hQ W1 F1 h1 h2 h3 ht y1 y2 y3;by_cases hq:hi=lo
 ·subst hq;rw [if_neg (by simp)];have q1:(hi != hi)=false:=(by simp);cases ea
  all_goals
   go_enter Tryz.func23,Tryz.ntmps23
   go_wp2_with (first
    |(go_at_call 40;((with_reducible refine (FL.out _ HW1.out).mono ?_);rintro e w2 ⟨rfl,hb⟩;have F2:=HF1.out.stay hb;clear c0 c1 c2 c3;have c0:=F2.c0;have c1:=F2.c1;have c2:=F2.c2;have c3:=F2.c3;have HB2:=Lh (HW1.out.then_ hb);have HF2:=Lh F2;clear hb F2 HW1 HF1))
    |(go_at_call 40;((with_reducible refine (FW.out _ HB2.out).mono ?_);rintro e w3 ⟨rfl,hb⟩;have HB3:=Lh (HB2.out.then_ hb);clear hb)))
   go_ret;exact tS_mk (by simp [ByteArray.data_append]) HB3.out
 ·rw [if_pos hq];have q1:(hi != lo)=true:=(by simpa using hq);clear hq;cases ea
  all_goals
   go_enter Tryz.func23,Tryz.ntmps23
   go_wp2_with (first
    |(go_at_call 40;((with_reducible refine (FL.out _ HW1.out).mono ?_);rintro e w2 ⟨rfl,hb⟩;have F2:=HF1.out.stay hb;clear c0 c1 c2 c3;have c0:=F2.c0;have c1:=F2.c1;have c2:=F2.c2;have c3:=F2.c3;have HB2:=Lh (HW1.out.then_ hb);have HF2:=Lh F2;clear hb F2 HW1 HF1))
    |(go_at_call 40;((with_reducible refine (FH.out _ HB2.out).mono ?_);rintro e w3 ⟨rfl,hb⟩;have F3:=HF2.out.stay hb;clear c0 c1 c2 c3;have c0:=F3.c0;have c1:=F3.c1;have c2:=F3.c2;have c3:=F3.c3;have HB3:=Lh (HB2.out.then_ hb);clear hb F3 HF2 HB2))
    |(go_at_call 40;((with_reducible refine (FW.out _ HB3.out).mono ?_);rintro e w4 ⟨rfl,hb⟩;have HB4:=Lh (HB3.out.then_ hb);clear hb)))
   go_ret;exact tS_mk (by simp [ByteArray.data_append]) HB4.out
theorem modeText_any (m:Int) (w:World):Calls Tryz.prog 95 #[.int .i64 m] w fun e w'=>e=.returned (.string (mb (mdW m)))∧w=w':=by
 by_cases h1:m=1
 ·subst h1
  go_enter Tryz.func95,Tryz.ntmps95
  go_wp2;go_ret;exact⟨rfl,rfl⟩
 ·by_cases h2:m=2
  ·subst h2
   go_enter Tryz.func95,Tryz.ntmps95
   go_wp2;go_ret;exact⟨rfl,rfl⟩
  ·have e:mdW m=stateW:=(by unfold mdW;rw [if_neg h1,if_neg h2]);rw [e];have f1:(m == 1)=false:=(by simpa using h1);have f2:(m == 2)=false:=(by simpa using h2);clear h1 h2 e
   go_enter Tryz.func95,Tryz.ntmps95
   go_wp2;go_ret;exact⟨rfl,rfl⟩
def parT (s:ByteArray):List UInt8:=if s.size=0 then [] else 32::(extendsW++32::nmT s)
theorem parentText_any (s:ByteArray) (w:World) (hs:s.size≤140737488351232):Calls Tryz.prog 61 #[.string s] w fun e w'=>e=.returned (.string (mb (parT s)))∧w=w':=by
 by_cases h:s.size=0
 ·have e:parT s=[]:=(by unfold parT;rw [if_pos h]);have hs0:s=⟨#[]⟩:=nm_empty h;rw [e];subst hs0
  go_enter Tryz.func61,Tryz.ntmps61
  go_wp2;go_ret;exact⟨rfl,rfl⟩
 ·have e:Hid (parT s=32::(extendsW++32::nmT s)):=Lh (by unfold parT;rw [if_neg h]);have f1:s.toList.isEmpty=false:=(by rw [isEmp_toList];unfold isEmp;simpa using h);have f2:(s.toList == [])=false:=(by rw [←f1];cases s.toList<;>rfl);clear h
  go_enter Tryz.func61,Tryz.ntmps61
  go_wp2;go_ret;rw [e.out];refine⟨?_,rfl⟩
  congr 2
end CtW
end Go.Proofs.YtihnejaopejbgaaGreatDoor
