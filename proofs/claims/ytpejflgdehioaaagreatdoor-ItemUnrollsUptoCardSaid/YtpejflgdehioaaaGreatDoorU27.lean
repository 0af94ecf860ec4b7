/-
  Laws that the card uses; no conditions beside those that each states (ItUnder ExBrief ExKids).
-/
import Derived.Test.YtpejflgdehioaaaGreatDoorU11
import Derived.Test.YtpejflgdehioaaaGreatDoorU18
import Derived.Test.YtpejflgdehioaaaGreatDoorU23
set_option maxRecDepth 100000
set_option maxHeartbeats 16000000
namespace Go.Proofs.YtpejflgdehioaaaGreatDoor
namespace ItW
open Go Go.RowKit NumM LexW LexM ExM ExW ItM
def CondS (S:Nat→Prop) (w:World) (v:Value):Option Ex→Prop
 | none=>v=.pointer none
 | some c=>∃ b p cap,v=.pointer (some ⟨b,0,none⟩)∧S b∧Four w b (.int .i64 c.op) (.int .i64 c.n) (.string c.nm) (.slice p c.args.length cap)∧ExS S w (xv c.op c.n c.nm (.slice p c.args.length cap)) c
theorem fourEq {w w':World} {b:Nat} {x0 x1 x2 x3:Value} (h:Four w b x0 x1 x2 x3) (hb:w'.heap[b]? = w.heap[b]?):Four w' b x0 x1 x2 x3:=by
 have hc:∀ o,w'.cell? ⟨b,o,none⟩=w.cell? ⟨b,o,none⟩:=(fun o=>World.cell?_of_block (w:=w) hb);have hf:∀ o,w'.frozen? ⟨b,o,none⟩=w.frozen? ⟨b,o,none⟩:=(fun o=>World.frozen?_of_block (w:=w) hb);have hl:b<w'.heap.size:=by
  have h1:=h.lt;rw [Array.getElem?_eq_getElem h1] at hb;exact (Array.getElem?_eq_some_iff.1 hb).1
 exact⟨hl,(hc _).trans h.c0,(hc _).trans h.c1,(hc _).trans h.c2,(hc _).trans h.c3,(hf _).trans h.f0,(hf _).trans h.f1,(hf _).trans h.f2,(hf _).trans h.f3⟩
theorem exsEq {S S':Nat→Prop} {w w':World} (hS:∀ b,S b→S' b∧w'.heap[b]? = w.heap[b]?) {v:Value} {e:Ex} (h:ExS S w v e):ExS S' w' v e :=
 h.kept (fun b q=>(hS b q).1) (fun b _ q _ hv=>(World.cell?_of_block (w:=w) (hS b q).2).trans hv)
theorem CondS.eq {S S':Nat→Prop} {w w':World} (hS:∀ b,S b→S' b∧w'.heap[b]? = w.heap[b]?) {v:Value} {q:Option Ex} (h:CondS S w v q):CondS S' w' v q:=by
 cases q with
 | none=>exact h
 | some c =>
  obtain⟨b,p,cap,e,hb,hf,hx⟩:=h;exact⟨b,p,cap,e,(hS b hb).1,fourEq hf (hS b hb).2,exsEq hS hx⟩
def tUnd (S:Nat→Prop) (q:Option Ex) (op:Int) (e:Ex) (w:World) (x:Ending) (w':World):Prop :=
 ∃ b,x=.returned (.pointer (some ⟨b,0,none⟩))∧CondS (fun b=>S b∨Up w.heap.size w' b) w' (.pointer (some ⟨b,0,none⟩)) (some (und q op e))∧Below w.heap.size w w'
theorem two_args {T:Nat→Prop} {W:World} {g:Nat} {op:Int} {c e:Ex} {p5 p:Option Addr} {c5 cap:Nat} (hT:T g)
  (hB:Blk W g [.int .i64 c.op,.int .i64 c.n,.string c.nm,.slice p5 c.args.length c5,.int .i64 e.op,.int .i64 e.n,.string e.nm,.slice p e.args.length cap])
  (h1:ExS T W (xv c.op c.n c.nm (.slice p5 c.args.length c5)) c) (h2:ExS T W (xv e.op e.n e.nm (.slice p e.args.length cap)) e) :
  ExS T W (xv op 0 ⟨#[]⟩ (.slice (some ⟨g,0,none⟩) 2 2)) (.mk op 0 ⟨#[]⟩ [c,e]):=by
 refine ExS.mk (ks:=[c,e]) (fun i=>if i=0 then p5 else p) (fun i=>if i=0 then c5 else cap) (by decide) (by simp) (by simp) (fun _=>⟨g,0,rfl,hT,fun i a ha=>?_⟩) (fun i a ha=>?_)
 ·rcases i with _ | _ | i
  ·obtain rfl:c=a:=(by simpa using ha);exact⟨hB.c 0 _ rfl,hB.c 1 _ rfl,hB.c 2 _ rfl,hB.c 3 _ rfl⟩
  ·obtain rfl:e=a:=(by simpa using ha);exact⟨hB.c 4 _ rfl,hB.c 5 _ rfl,hB.c 6 _ rfl,hB.c 7 _ rfl⟩
  ·simp at ha
 ·rcases i with _ | _ | i
  ·obtain rfl:c=a:=(by simpa using ha);exact h1
  ·obtain rfl:e=a:=(by simpa using ha);exact h2
  ·simp at ha
theorem under_any (S:Nat→Prop) (q:Option Ex) (op:Int) (e:Ex) (vc ve:Value) (w:World) (hS:∀ b,S b→b<w.heap.size) (hc:CondS S w vc q) (he:ExS S w ve e) (hsz:∀ c,q=some c→sz c≤10000) :
  Calls Tryz.prog 132 #[vc,.int .i64 op,ve] w (tUnd S q op e w):=by
 obtain⟨p,cap,rfl,hen,hel⟩:=he.form;have HE:=Lh he;have HS:=Lh hS;have hb1:=ba w (.cells #[.int .i64 e.op,.int .i64 e.n,.string e.nm,.slice p e.args.length cap] 43);have FE:=Four.new w (.int .i64 e.op) (.int .i64 e.n) (.string e.nm) (.slice p e.args.length cap) 43;cases q with
 | none =>
  have hv:vc=.pointer none:=hc;subst hv;have HB1:=Lh hb1;have HFE:=Lh FE;clear hb1 FE he hc hsz hen hel
  go_enter Tryz.func132,Tryz.ntmps132
  go_wp2;go_ret;exact⟨_,rfl,⟨_,p,cap,rfl,.inr ⟨Nat.le_refl _,HFE.out.lt⟩,HFE.out,exsEq (fun b q=>⟨.inl q,HB1.out.block b (HS.out b q)⟩) HE.out⟩,HB1.out⟩
 | some c =>
  obtain⟨b,pc,kc,rfl,hSb,hf,hx⟩:=hc;have hf1:=hf.stay hb1;have HX:=Lh hx;have CL:Hid (∀ W,Below w.heap.size w W→Calls Tryz.prog 88 #[xv c.op c.n c.nm (.slice pc c.args.length kc)] W (tFr c W)):=(Lh fun W hW=>cloneI_any c _ _ _ ((hx.toAt hS).under hW) hW.size (hsz c rfl));have m0:=hf1.c0;have m1:=hf1.c1;have m2:=hf1.c2;have m3:=hf1.c3;have d0:=FE.c0;have d1:=FE.c1;have d2:=FE.c2;have d3:=FE.c3;have hlb:=hf.lt;have HB1:=Lh hb1;have HFE:=Lh FE;have ED:Hid (und (some c) op e=.mk op 0 ⟨#[]⟩ [c,e]):=Lh rfl;clear hb1 FE he hsz hf hf1 hx
  go_enter Tryz.func132,Tryz.ntmps132
  go_wp2;obtain⟨w1,hw1⟩:∃ w1,w.alloc (.cells #[.int .i64 e.op,.int .i64 e.n,.string e.nm,.slice p e.args.length cap] 43)=w1:=⟨_,rfl⟩;rw [hw1] at HB1 HFE m0 m1 m2 m3 d0 d1 d2 d3 ⊢;clear hw1;have FIN:Hid (∀ (w5:World) (p5:Option Addr) (c5:Nat),Below w1.heap.size w1 w5→Fr w1.drew.heap.size w5 (xv c.op c.n c.nm (.slice p5 c.args.length c5)) c→tUnd S (some c) op e w (.returned (.pointer (some ⟨w5.heap.size+1,0,none⟩))) ((w5.alloc (.cells #[.int .i64 c.op,.int .i64 c.n,.string c.nm,.slice p5 c.args.length c5,.int .i64 e.op,.int .i64 e.n,.string e.nm,.slice p e.args.length cap] 43)).alloc (.cells #[.int .i64 op,.int .i64 0,.string ⟨#[]⟩,.slice (some ⟨w5.heap.size,0,none⟩) 2 2] 43))):=Lh (fun w5 p5 c5 hB hF=>by
   have hB2:=HB1.out.then_ hB;have s1:=HB1.out.size;have s2:=hB.size;have b1:=ba w5 (.cells #[.int .i64 c.op,.int .i64 c.n,.string c.nm,.slice p5 c.args.length c5,.int .i64 e.op,.int .i64 e.n,.string e.nm,.slice p e.args.length cap] 43);have b2:=ba (w5.alloc (.cells #[.int .i64 c.op,.int .i64 c.n,.string c.nm,.slice p5 c.args.length c5,.int .i64 e.op,.int .i64 e.n,.string e.nm,.slice p e.args.length cap] 43)) (.cells #[.int .i64 op,.int .i64 0,.string ⟨#[]⟩,.slice (some ⟨w5.heap.size,0,none⟩) 2 2] 43);have b12:=b1.then_ b2;have z1:=World.size_alloc w5 (.cells #[.int .i64 c.op,.int .i64 c.n,.string c.nm,.slice p5 c.args.length c5,.int .i64 e.op,.int .i64 e.n,.string e.nm,.slice p e.args.length cap] 43);have z2:=World.size_alloc (w5.alloc (.cells #[.int .i64 c.op,.int .i64 c.n,.string c.nm,.slice p5 c.args.length c5,.int .i64 e.op,.int .i64 e.n,.string e.nm,.slice p e.args.length cap] 43)) (.cells #[.int .i64 op,.int .i64 0,.string ⟨#[]⟩,.slice (some ⟨w5.heap.size,0,none⟩) 2 2] 43);have B8:=(Blk.new w5 [.int .i64 c.op,.int .i64 c.n,.string c.nm,.slice p5 c.args.length c5,.int .i64 e.op,.int .i64 e.n,.string e.nm,.slice p e.args.length cap] 43).stay b2;have F4:=Four.new (w5.alloc (.cells #[.int .i64 c.op,.int .i64 c.n,.string c.nm,.slice p5 c.args.length c5,.int .i64 e.op,.int .i64 e.n,.string e.nm,.slice p e.args.length cap] 43)) (.int .i64 op) (.int .i64 0) (.string ⟨#[]⟩) (.slice (some ⟨w5.heap.size,0,none⟩) 2 2) 43;rw [z1] at F4 z2;have hd:w1.drew.heap.size=w1.heap.size:=rfl;refine⟨_,rfl,⟨_,some ⟨w5.heap.size,0,none⟩,2,rfl,.inr ⟨by omega,F4.lt⟩,F4,?_⟩,hB2.then_ b12⟩;refine two_args (.inr ⟨by omega,B8.lt⟩) B8 (hF.kept (fun b q=>.inr ⟨by have:=q.1;omega,by have:=q.2;omega⟩) (fun b o q v hv=>(b12.cell (p:=⟨b,o,none⟩) q.2).trans hv)) (exsEq (fun b q=>⟨.inl q,(hB2.then_ b12).block b (HS.out b q)⟩) HE.out))
  go_region_with (go_at_call 88;refine (CL.out _ (by first | exact HB1.out | exact HB1.out.drew)).mono ?_;rintro x w5 ⟨v5,rfl,hfr5,hb5⟩;obtain⟨p5,c5,rfl,h5s,h5c⟩:=hfr5.form;have hB5:Below w1.heap.size w1 w5:=(by first | exact hb5 | exact (Below.refl _ _).drew.trans hb5);have f5:=HFE.out.stay hB5;have e0:=f5.c0;have e1:=f5.c1;have e2:=f5.c2;have e3:=f5.c3;have HF5:=Lh hfr5;have HB5:=Lh hB5;clear hb5 hfr5 f5 hB5)
  all_goals
   go_wp2;go_ret;exact FIN.out _ _ _ HB5.out HF5.out
end ItW
namespace ExW
open Go Go.RowKit Go.«Sort» NumM LexW LexM ExM
def IntsV (w:World) (v:Value) (l:List Int):Prop:=∃ p cap,v=.slice p l.length cap∧l.length≤cap∧(0<l.length→∃ g,p=some ⟨g,0,none⟩∧IntsAt w g 0 l)
theorem IntsV.later {w w':World} {v:Value} {l:List Int} (h:IntsV w v l) (hb:Below w.heap.size w w'):IntsV w' v l:=by
 obtain⟨p,cap,e,hc,hx⟩:=h;exact⟨p,cap,e,hc,fun h0=>by obtain⟨g,e2,hi⟩:=hx h0;exact⟨g,e2,hi.later hb⟩⟩
theorem four_grown {W W':World} {g:Nat} {x0 x1 x2 x3:Value} {row:Option Nat} (h:Four W g x0 x1 x2 x3) (hg:W.grownBy W' row) (hr:some g≠row):Four W' g x0 x1 x2 x3:=by
 have hb:=hg.block g h.lt hr;exact⟨Nat.lt_of_lt_of_le h.lt hg.size,(World.cell?_of_block (w:=W) hb).trans h.c0,(World.cell?_of_block (w:=W) hb).trans h.c1,(World.cell?_of_block (w:=W) hb).trans h.c2,(World.cell?_of_block (w:=W) hb).trans h.c3,
  (World.frozen?_of_block (w:=W) hb).trans h.f0,(World.frozen?_of_block (w:=W) hb).trans h.f1,(World.frozen?_of_block (w:=W) hb).trans h.f2,(World.frozen?_of_block (w:=W) hb).trans h.f3⟩
theorem row_later {w w':World} {base:Nat} {e:TypeId} {size n:Nat} {v:Value} {xs:List Value} (h:w.ownsRow base e size v n xs) (hb:Below w.heap.size w w'):w'.ownsRow base e size v n xs :=
 World.ownsRow.kept h (grown_of_below hb) (by
  cases hv:v.ownBlock with
  | none=>exact .inl rfl
  | some b=>exact .inr (fun e=>by cases e))
end ExW
namespace ExW
open Go Go.RowKit NumM LexW LexM ExM
def Foot (N lo:Nat) (W:World) (b:Nat):Prop:=b<N∨(lo≤b∧b<W.heap.size)
def tFo (N:Nat) (x:Ex) (w:World) (e:Ending) (w':World):Prop:=∃ v,e=.returned v∧ExS (Foot N w.heap.size w') w' v x∧Below w.heap.size w w'
theorem Foot.up {N lo lo':Nat} {W W':World} {b:Nat} (h:Foot N lo W b) (hl:lo'≤lo) (hs:W.heap.size≤W'.heap.size):Foot N lo' W' b :=
 h.imp id fun g=>⟨Nat.le_trans hl g.1,Nat.lt_of_lt_of_le g.2 hs⟩
theorem ExS.weak {S S':Nat→Prop} {w:World} {v:Value} {e:Ex} (h:ExS S w v e) (hS:∀ b,S b→S' b):ExS S' w v e:=h.kept hS (fun _ _ _ _ hv=>hv)
theorem ExS.grown {S S':Nat→Prop} {w w':World} {row:Option Nat} {v:Value} {e:Ex} (h:ExS S w v e) (hg:w.grownBy w' row) (hS:∀ b,S b→S' b∧b<w.heap.size∧row≠some b):ExS S' w' v e :=
 h.kept (fun b hb=>(hS b hb).1) (fun b _ hb _ hv=>(World.cell?_of_block (w:=w) (hg.block b (hS b hb).2.1 (fun e=>(hS b hb).2.2 e.symm))).trans hv)
theorem tFo.at_ {N:Nat} {x:Ex} {w w':World} {v:Value} (h:ExS (Foot N w.heap.size w') w' v x) (hN:N≤w'.heap.size):ExAt w'.heap.size w' v x :=
 h.toAt (fun b hb=>hb.elim (fun g=>by omega) (fun g=>g.2))
structure KidsP (N lo:Nat) (X:Option Nat) (W:World) (va:Value) (xs:List Ex) (pl:Nat→Option Addr) (cl:Nat→Nat):Prop where
 row:W.ownsRow lo 43 4 va xs.length (exCells pl cl 0 xs)
 kid:∀ i a,xs[i]? = some a→ExS (fun b=>Foot N lo W b∧va.ownBlock≠some b∧X≠some b) W (xv a.op a.n a.nm (.slice (pl i) a.args.length (cl i))) a
theorem KidsP.nil (N lo:Nat) (X:Option Nat) (W:World):KidsP N lo X W (.slice none 0 0) [] (fun _=>none) (fun _=>0) :=
 ⟨World.ownsRow_nil _ _ _ _,fun i a h=>by simp at h⟩
theorem own_lt {w:World} {base:Nat} {e:TypeId} {size n:Nat} {v:Value} {xs:List Value} (h:w.ownsRow base e size v n xs):∀ k,v.ownBlock=some k→base≤k∧k<w.heap.size∧∃ cs,w.heap[k]? = some (.cells cs e):=by
 intro k hk;rcases h.2 with ⟨rfl,_⟩ | ⟨g,cap,cur,rfl,hB,hg,_⟩
 ·simp [Value.ownBlock] at hk
 ·obtain rfl:g=k:=(by simpa [Value.ownBlock] using hk);exact⟨hB,(Array.getElem?_eq_some_iff.1 hg).1,cur,hg⟩
theorem own_slice {w:World} {base:Nat} {e:TypeId} {size n:Nat} {v:Value} {xs:List Value} (h:w.ownsRow base e size v n xs):∃ q k c,v=.slice q k c:=by
 rcases h.2 with ⟨rfl,_⟩ | ⟨g,cap,cur,rfl,_⟩
 ·exact⟨_,_,_,rfl⟩
 ·exact⟨_,_,_,rfl⟩
theorem own_grown {w w':World} {base:Nat} {e:TypeId} {size n:Nat} {v:Value} {xs:List Value} {row:Option Nat} (h:w.ownsRow base e size v n xs) (hg:w.grownBy w' row) (hr:∀ b,v.ownBlock=some b→row≠some b):w'.ownsRow base e size v n xs :=
 World.ownsRow.kept h hg (by
  cases hv:v.ownBlock with
  | none=>exact .inl rfl
  | some b=>exact .inr (fun e=>hr b hv e.symm))
theorem KidsP.turn {N lo:Nat} {X X':Option Nat} {W W':World} {va:Value} {xs:List Ex} {pl:Nat→Option Addr} {cl:Nat→Nat} {row:Option Nat} (h:KidsP N lo X W va xs pl cl) (hN:N≤W.heap.size) (hg:W.grownBy W' row)
  (hv:∀ b,va.ownBlock=some b→row≠some b) (hr:∀ b,row=some b→X=some b∨(N≤b∧b<lo)) (hX:∀ b,X'=some b→X=some b∨b=W.heap.size):KidsP N lo X' W' va xs pl cl:=by
 refine⟨own_grown h.row hg hv,fun i a hi=>(h.kid i a hi).grown hg ?_⟩;rintro b ⟨hf,h1,h2⟩;have hlt:b<W.heap.size:=hf.elim (fun g=>by omega) (fun g=>g.2);refine⟨⟨hf.up (Nat.le_refl _) hg.size,h1,fun e=>?_⟩,hlt,fun e=>?_⟩
 ·rcases hX b e with e | e
  ·exact h2 e
  ·omega
 ·rcases hr b e with e | e
  ·exact h2 e
  ·rcases hf with g | g
   ·omega
   ·omega
theorem KidsP.later {N lo:Nat} {X:Option Nat} {W W':World} {va:Value} {xs:List Ex} {pl:Nat→Option Addr} {cl:Nat→Nat} (h:KidsP N lo X W va xs pl cl) (hN:N≤W.heap.size) (hb:Below W.heap.size W W'):KidsP N lo X W' va xs pl cl :=
 h.turn hN (grown_of_below hb) (fun _ _ e=>by cases e) (fun _ e=>by cases e) (fun _ e=>.inl e)
theorem exCells_congr {pl pl':Nat→Option Addr} {cl cl':Nat→Nat}:∀ (ks:List Ex) (j:Nat),(∀ i,j≤i→i<j+ks.length→pl i=pl' i∧cl i=cl' i)→exCells pl cl j ks=exCells pl' cl' j ks
 | [],_,_=>rfl
 | a::r,j,h=>by
  obtain⟨h1,h2⟩:=h j (Nat.le_refl _) (by simp);rw [exCells,exCells,h1,h2,exCells_congr r (j+1) (fun i hi hl=>h i (by omega) (by simp only [List.length_cons];omega))]
theorem exCells_snoc (pl:Nat→Option Addr) (cl:Nat→Nat) (a:Ex):∀ (ks:List Ex) (j:Nat),exCells pl cl j (ks++[a])=exCells pl cl j ks++[.int .i64 a.op,.int .i64 a.n,.string a.nm,.slice (pl (j+ks.length)) a.args.length (cl (j+ks.length))]
 | [],j=>by simp [exCells]
 | b::r,j=>by
  rw [List.cons_append,exCells,exCells_snoc pl cl a r (j+1),exCells,List.append_assoc,List.length_cons];rw [show j+1+r.length=j+(r.length+1) by omega]
theorem KidsP.snoc {N lo:Nat} {X:Option Nat} {W W1:World} {va:Value} {xs:List Ex} {pl:Nat→Option Addr} {cl:Nat→Nat} {a:Ex} {p:Option Addr} {c g cap:Nat} (h:KidsP N lo X W va xs pl cl) (hN:N≤lo) (hlo:lo≤W.heap.size)
  (hf:ExS (fun b=>Foot N lo W b∧va.ownBlock≠some b∧X≠some b) W (xv a.op a.n a.nm (.slice p a.args.length c)) a)
  (hown:W1.ownsRow lo 43 4 (.slice (some ⟨g,0,none⟩) (xs.length+1) cap) (xs.length+1) (exCells pl cl 0 xs++[.int .i64 a.op,.int .i64 a.n,.string a.nm,.slice p a.args.length c])) (hgr:W.grownBy W1 va.ownBlock) (hat:va.ownBlock=some g∨g=W.heap.size) :
  ∃ pl' cl',KidsP N lo X W1 (.slice (some ⟨g,0,none⟩) (xs.length+1) cap) (xs++[a]) pl' cl':=by
 refine⟨fun i=>if i<xs.length then pl i else p,fun i=>if i<xs.length then cl i else c,?_,fun i x hi=>?_⟩
 ·rw [List.length_append,exCells_snoc,exCells_congr (pl':=pl) (cl':=cl) xs 0 (fun i _ hi=>by rw [if_pos (by omega),if_pos (by omega)];exact⟨rfl,rfl⟩)];rw [if_neg (by omega),if_neg (by omega)];exact hown
 ·have fit:∀ b,Foot N lo W b∧va.ownBlock≠some b∧X≠some b→(Foot N lo W1 b∧(Value.slice (some ⟨g,0,none⟩) (xs.length+1) cap).ownBlock≠some b∧X≠some b)∧b<W.heap.size∧va.ownBlock≠some b:=by
   rintro b ⟨k1,k2,k3⟩;have hlt:b<W.heap.size:=k1.elim (fun q=>by omega) (fun q=>q.2);refine⟨⟨k1.up (Nat.le_refl _) hgr.size,fun e=>?_,k3⟩,hlt,k2⟩;obtain rfl:g=b:=(by simpa [Value.ownBlock] using e);rcases hat with e2 | e2
   ·exact k2 e2
   ·omega
  rcases Nat.lt_or_ge i xs.length with hlt | hge
  ·rw [List.getElem?_append_left hlt] at hi;simp only [if_pos hlt];exact (h.kid i x hi).grown hgr fit
  ·rw [List.getElem?_append_right hge] at hi;have hil:i - xs.length<1:=by
    have:=(List.getElem?_eq_some_iff.1 hi).1
    simpa using this
   have h0:i - xs.length=0:=(by omega);rw [h0] at hi;obtain rfl:a=x:=(by simpa using hi);simp only [if_neg (show ¬ i<xs.length by omega)];exact hf.grown hgr fit
theorem ExS.leaf {S:Nat→Prop} {w:World} {o n:Int} {s:ByteArray} {p:Option Addr} {cap:Nat} (hs:s.size≤140737488351232):ExS S w (xv o n s (.slice p 0 cap)) (.mk o n s []) :=
 ExS.mk (ks:=[]) (fun _=>none) (fun _=>0) hs (by simp) (by simp) (fun h=>by simp at h) (fun i a hi=>by simp at hi)
theorem KidsP.done {N lo lo':Nat} {X:Option Nat} {W:World} {va:Value} {xs:List Ex} {pl:Nat→Option Addr} {cl:Nat→Nat} {o n:Int} {s:ByteArray} (h:KidsP N lo X W va xs pl cl) (hs:s.size≤140737488351232) (hk:xs.length≤100000) (hlo:lo'≤lo):ExS (Foot N lo' W) W (xv o n s va) (.mk o n s xs):=by
 obtain⟨hrow,hkid⟩:=h;rcases hrow.2 with ⟨hv,hn⟩ | ⟨g,cap,cur,hv,hB,hg,hle,_,_,htake⟩
 ·have:xs=[]:=List.length_eq_zero_iff.1 hn;subst this;rw [hv];exact ExS.leaf hs
 ·rw [hv];refine ExS.mk pl cl hs (by omega) hle (fun _=>⟨g,0,rfl,.inr ⟨by omega,(Array.getElem?_eq_some_iff.1 hg).1⟩,fun i a hi=>?_⟩) (fun i a hi=>(hkid i a hi).weak (fun b hb=>hb.1.up hlo (Nat.le_refl _)));have hil:=(List.getElem?_eq_some_iff.1 hi).1;have rd:∀ r,r<4→W.cell? ⟨g,i*4+r,none⟩=some (cellR a (pl i) (cl i) r):=fun r hr=>by
   rw [cell_of_row W g _ cur 43 (0,0) hg];have q:=exCells_at pl cl xs 0 i r a hi hr;rw [Nat.zero_add] at q;rw [←q,←htake,List.getElem?_take,if_pos (by omega)];simp
  rw [Nat.zero_add];exact⟨rd 0 (by omega),rd 1 (by omega),rd 2 (by omega),rd 3 (by omega)⟩
theorem ExS.set {N lo g i:Nat} {w:World} {u v:Value} {e:Ex} (h:ExS (Foot N lo w) w v e) (h1:N≤g) (h2:g<lo) (hN:N≤w.heap.size):ExS (Foot N lo (w.setCell ⟨g,i,none⟩ u)) (w.setCell ⟨g,i,none⟩ u) v e :=
 h.grown (row:=some g) (grownBy_set w g i u) (fun b hb=>⟨hb.up (Nat.le_refl _) (by rw [setCell_size];exact Nat.le_refl _),hb.elim (fun q=>by omega) (fun q=>q.2),fun e=>by cases e;rcases hb with q | q<;>omega⟩)
theorem one_four (o n:Int) (s:ByteArray) (p:Option Addr) (k c:Nat):∀ u∈([.int .i64 o,.int .i64 n,.string s,.slice p k c]:List Value),u.oneCell'=true:=by
 intro u hu;simp only [List.mem_cons,List.not_mem_nil,or_false] at hu;rcases hu with rfl | rfl | rfl | rfl<;>rfl
theorem cell_one_at {w:World} {B:Nat} (hB:w.heap.size=B) (x:Value) (t:TypeId):∀ j u,[x][j]? = some u→(w.alloc (.cells #[x] t)).cell? ((⟨B,0,none⟩:Addr).add j)=some u:=by
 subst hB;exact cell_one_new w x t
theorem cell_four_at {w:World} {B:Nat} (hB:w.heap.size=B) (x0 x1 x2 x3:Value) (t:TypeId):∀ j u,[x0,x1,x2,x3][j]? = some u→(w.alloc (.cells #[x0,x1,x2,x3] t)).cell? ((⟨B,0,none⟩:Addr).add j)=some u:=by
 subst hB;intro j u hj;have h:=alloc_cells w #[x0,x1,x2,x3] t;have ea:(⟨w.heap.size,0,none⟩:Addr).add j=⟨w.heap.size,j,none⟩:=(by unfold Addr.add;by_cases h0:j=0<;>simp [h0]);rw [ea];exact (h j u (by rw [List.getElem?_toArray];exact hj)).1
end ExW
end Go.Proofs.YtpejflgdehioaaaGreatDoor
