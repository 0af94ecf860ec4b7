/-
  Laws that the card uses; no conditions beside those that each states (ExEval ExBrief ExKids LexPos).
-/
import Derived.Lib.OthersKept
import Derived.Test.YtihnejaopejbgaaGreatDoorP13
namespace Go.Proofs.YtihnejaopejbgaaGreatDoor
namespace ExW
open Go Go.RowKit NumM LexW LexM ExM
structure Upd (b:Nat) (w w':World):Prop where
 os:w'.os=w.os
 tape:w'.tape=w.tape
 output:w'.output=w.output
 size:w.heap.size≤w'.heap.size
 block:∀ j,j<w.heap.size→j≠b→w'.heap[j]? = w.heap[j]?
theorem Upd.of {b:Nat} {w w':World} (h:Below w.heap.size w w'):Upd b w w':=⟨h.os,h.tape,h.output,h.size,fun j hj _=>h.block j hj⟩
theorem Upd.refl (b:Nat) (w:World):Upd b w w:=Upd.of (Below.refl _ _)
theorem Upd.trans {b:Nat} {w w' w'':World} (h:Upd b w w') (k:Upd b w' w''):Upd b w w'' :=
 ⟨k.os.trans h.os,k.tape.trans h.tape,k.output.trans h.output,Nat.le_trans h.size k.size,fun j hj hn=>(k.block j (Nat.lt_of_lt_of_le hj h.size) hn).trans (h.block j hj hn)⟩
theorem Upd.below {b N:Nat} {w w':World} (h:Upd b w w') (hN:N≤b) (hs:N≤w.heap.size):Below N w w':=⟨h.os,h.tape,h.output,h.size,fun j hj=>h.block j (by omega) (by omega)⟩
end ExW
namespace ExW
open Go Go.RowKit Go.«Sort» NumM LexW LexM ExM
def IntsV (w:World) (v:Value) (l:List Int):Prop:=∃ p cap,v=.slice p l.length cap∧l.length≤cap∧(0<l.length→∃ g,p=some ⟨g,0,none⟩∧IntsAt w g 0 l)
theorem IntsV.later {w w':World} {v:Value} {l:List Int} (h:IntsV w v l) (hb:Below w.heap.size w w'):IntsV w' v l:=by
 obtain⟨p,cap,e,hc,hx⟩:=h;exact⟨p,cap,e,hc,fun h0=>by obtain⟨g,e2,hi⟩:=hx h0;exact⟨g,e2,hi.later hb⟩⟩
end ExW
namespace ExW
open Go Go.RowKit NumM LexW LexM ExM
def Foot (N lo:Nat) (W:World) (b:Nat):Prop:=b<N∨(lo≤b∧b<W.heap.size)
theorem Foot.up {N lo lo':Nat} {W W':World} {b:Nat} (h:Foot N lo W b) (hl:lo'≤lo) (hs:W.heap.size≤W'.heap.size):Foot N lo' W' b :=
 h.imp id fun g=>⟨Nat.le_trans hl g.1,Nat.lt_of_lt_of_le g.2 hs⟩
theorem ExS.grown {S S':Nat→Prop} {w w':World} {row:Option Nat} {v:Value} {e:Ex} (h:ExS S w v e) (hg:w.grownBy w' row) (hS:∀ b,S b→S' b∧b<w.heap.size∧row≠some b):ExS S' w' v e :=
 h.kept (fun b hb=>(hS b hb).1) (fun b _ hb _ hv=>(World.cell?_of_block (w:=w) (hg.block b (hS b hb).2.1 (fun e=>(hS b hb).2.2 e.symm))).trans hv)
structure KidsP (N lo:Nat) (X:Option Nat) (W:World) (va:Value) (xs:List Ex) (pl:Nat→Option Addr) (cl:Nat→Nat):Prop where
 row:W.ownsRow lo 51 4 va xs.length (exCells pl cl 0 xs)
 kid:∀ i a,xs[i]? = some a→ExS (fun b=>Foot N lo W b∧va.ownBlock≠some b∧X≠some b) W (xv a.op a.n a.nm (.slice (pl i) a.args.length (cl i))) a
theorem own_lt {w:World} {base:Nat} {e:TypeId} {size n:Nat} {v:Value} {xs:List Value} (h:w.ownsRow base e size v n xs):∀ k,v.ownBlock=some k→base≤k∧k<w.heap.size∧∃ cs,w.heap[k]? = some (.cells cs e):=by
 intro k hk;rcases h.2 with ⟨rfl,_⟩ | ⟨g,cap,cur,rfl,hB,hg,_⟩
 ·simp [Value.ownBlock] at hk
 ·obtain rfl:g=k:=(by simpa [Value.ownBlock] using hk);exact⟨hB,(Array.getElem?_eq_some_iff.1 hg).1,cur,hg⟩
theorem own_slice {w:World} {base:Nat} {e:TypeId} {size n:Nat} {v:Value} {xs:List Value} (h:w.ownsRow base e size v n xs):∃ q k c,v=.slice q k c:=by
 rcases h.2 with ⟨rfl,_⟩ | ⟨g,cap,cur,rfl,_⟩
 ·exact⟨_,_,_,rfl⟩
 ·exact⟨_,_,_,rfl⟩
theorem own_grown {w w':World} {base:Nat} {e:TypeId} {size n:Nat} {v:Value} {xs:List Value} {row:Option Nat} (h:w.ownsRow base e size v n xs) (hg:w.grownBy w' row) (hr:∀ b,v.ownBlock=some b→row≠some b):w'.ownsRow base e size v n xs :=
 World.ownsRow.kept h hg (by
  cases hv:v.ownBlock with
  | none=>exact .inl rfl
  | some b=>exact .inr (fun e=>hr b hv e.symm))
theorem KidsP.turn {N lo:Nat} {X X':Option Nat} {W W':World} {va:Value} {xs:List Ex} {pl:Nat→Option Addr} {cl:Nat→Nat} {row:Option Nat} (h:KidsP N lo X W va xs pl cl) (hN:N≤W.heap.size) (hg:W.grownBy W' row)
  (hv:∀ b,va.ownBlock=some b→row≠some b) (hr:∀ b,row=some b→X=some b∨(N≤b∧b<lo)) (hX:∀ b,X'=some b→X=some b∨b=W.heap.size):KidsP N lo X' W' va xs pl cl:=by
 refine⟨own_grown h.row hg hv,fun i a hi=>(h.kid i a hi).grown hg ?_⟩;rintro b ⟨hf,h1,h2⟩;have hlt:b<W.heap.size:=hf.elim (fun g=>by omega) (fun g=>g.2);refine⟨⟨hf.up (Nat.le_refl _) hg.size,h1,fun e=>?_⟩,hlt,fun e=>?_⟩
 ·rcases hX b e with e | e
  ·exact h2 e
  ·omega
 ·rcases hr b e with e | e
  ·exact h2 e
  ·rcases hf with g | g
   ·omega
   ·omega
theorem KidsP.later {N lo:Nat} {X:Option Nat} {W W':World} {va:Value} {xs:List Ex} {pl:Nat→Option Addr} {cl:Nat→Nat} (h:KidsP N lo X W va xs pl cl) (hN:N≤W.heap.size) (hb:Below W.heap.size W W'):KidsP N lo X W' va xs pl cl :=
 h.turn hN (grown_of_below hb) (fun _ _ e=>by cases e) (fun _ e=>by cases e) (fun _ e=>.inl e)
theorem cell_one_at {w:World} {B:Nat} (hB:w.heap.size=B) (x:Value) (t:TypeId):∀ j u,[x][j]? = some u→(w.alloc (.cells #[x] t)).cell? ((⟨B,0,none⟩:Addr).add j)=some u:=by
 subst hB;exact cell_one_new w x t
end ExW
namespace LexW
open Go Go.RowKit NumM LexM
theorem ownsRow_later {w w':World} {B:Nat} {e:TypeId} {size:Nat} {v:Value} {n:Nat} {xs:List Value} (h:w.ownsRow B e size v n xs) (hb:Below w.heap.size w w'):w'.ownsRow B e size v n xs:=by
 obtain⟨hl,h | ⟨g,cap,cur,hv,hB,hg,h1,h2,h3,h4⟩⟩:=h
 ·exact⟨hl,.inl h⟩
 ·exact⟨hl,.inr ⟨g,cap,cur,hv,hB,(hb.block g (Array.getElem?_eq_some_iff.1 hg).1).trans hg,h1,h2,h3,h4⟩⟩
end LexW
end Go.Proofs.YtihnejaopejbgaaGreatDoor
