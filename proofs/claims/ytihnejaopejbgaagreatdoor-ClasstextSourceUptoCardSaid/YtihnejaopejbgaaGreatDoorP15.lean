/-
  Laws that the card uses; no conditions beside those that each states (ClRepl ClClass ClBack ClFlat ClLine ClNames ClFamC).
-/
import Derived.Maps.AppendAt
import Derived.Lib.AppendZerosOnto
import Derived.Deep.RegionLaw
import Derived.Deep.RegionWith
import Derived.RangeFuncBound
import Derived.RangeFuncCalls
import Derived.RangeFuncLeaves
import Derived.Shelf.Abstract
import Derived.Shelf.RegionOpen
import Derived.OwnWalkIn
import Derived.TacticsInMore
import Derived.LoopNIn
import Derived.LoopIn
import Derived.Laws.EntriesVeiled
import Derived.Maps.OwnIn
import Derived.Maps.Views
import Derived.Test.YtihnejaopejbgaaGreatDoorP12
set_option maxRecDepth 100000
set_option maxHeartbeats 16000000
namespace Go.Proofs.YtihnejaopejbgaaGreatDoor
namespace ClW
open Go Go.RowKit NumM LexW LexM ClM
open Go.«Sort»
theorem grown_below {w w':World} (h:Below w.heap.size w w') (row:Option Nat):w.grownBy w' row:=⟨h.os,h.tape,h.output,h.size,fun k hk _=>h.block k hk⟩
theorem At.grown {N:Nat} {w w':World} {row:Option Nat} {sh:Sh} {v:Value} {lf:Lf} (h:At (Lo N) w sh v lf) (hg:w.grownBy w' row) (hN:N≤w.heap.size) (hr:∀ b,row=some b→N≤b):At (Lo N) w' sh v lf :=
 h.kept (fun _ h=>h) (fun b o hb _ hv=>(World.cell?_of_block (w:=w) (a:=⟨b,o,none⟩) (hg.block b (Nat.lt_of_lt_of_le hb hN) (fun e=>by have:=hr b e.symm;have:b<N:=hb;omega))).trans hv)
structure BkC (N:Nat) (w:World) (bs:List Bk) (xs:List Value):Prop where
 at_:∀ (i:Nat) (b:Bk),bs[i]? = some b→∃ pi ci,xs[i*2]? = some (.string b.nm)∧xs[i*2+1]? = some (.slice pi b.it.length ci)∧b.nm.size≤140737488351232∧At (Lo N) w (.r .items) (.slice pi b.it.length ci) (.row .items b.it)
def BRow (N B:Nat) (w:World) (v:Value) (bs:List Bk):Prop:=∃ xs,w.ownsRow B 57 2 v bs.length xs∧BkC N w bs xs
theorem BRow.grown {N B:Nat} {w w':World} {v:Value} {bs:List Bk} {row:Option Nat} (h:BRow N B w v bs) (hg:w.grownBy w' row) (hN:N≤w.heap.size) (hr:∀ b,row=some b→N≤b∧v.ownBlock≠some b):BRow N B w' v bs:=by
 obtain⟨xs,ho,hc⟩:=h;refine⟨xs,own_grown ho hg (fun b hb e=>(hr b e).2 hb),⟨fun i b hi=>?_⟩⟩;obtain⟨pi,ci,h1,h2,h3,h4⟩:=hc.at_ i b hi;exact⟨pi,ci,h1,h2,h3,h4.grown hg hN (fun b e=>(hr b e).1)⟩
theorem BRow.later {N B:Nat} {w w':World} {v:Value} {bs:List Bk} (h:BRow N B w v bs) (hb:Below w.heap.size w w') (hN:N≤w.heap.size):BRow N B w' v bs:=h.grown (grown_below hb none) hN (fun b e=>by cases e)
theorem BRow.rowA {N B:Nat} {w:World} {v:Value} {bs:List Bk} (h:BRow N B w v bs) (hl:bs.length≤100000):∃ p cap G,v=.slice p bs.length cap∧RowA (fun b=>b<N∨(B≤b∧b<w.heap.size∧v.ownBlock=some b)) w .blocks p cap G (bs.map Bk.lf):=by
 obtain⟨xs,ho,hc⟩:=h;obtain⟨p,cap,rfl⟩:=own_len ho;refine⟨p,cap,_,rfl,rowA_own (k:=.blocks) ho (List.length_map _) (by simp only [byt];omega) (fun i x hx=>?_) (fun i x j y sh hx hy hsh=>?_) (fun g h1 h2 h3=>.inr ⟨h1,h2,h3⟩)⟩
 ·rw [List.getElem?_map] at hx;obtain⟨b,_,rfl⟩:=Option.map_eq_some_iff.1 hx;rfl
 ·rw [List.getElem?_map] at hx;obtain⟨b,hb,rfl⟩:=Option.map_eq_some_iff.1 hx;obtain⟨pi,ci,h1,h2,h3,h4⟩:=hc.at_ i b hb;match j,hy,hsh with
  | 0,hy,hsh =>
   cases hy;cases hsh;have e:xs.getD (i*(shp Kd.blocks).length+0) undef=.string b.nm:=by
    rw [List.getD_eq_getElem?_getD,show i*(shp Kd.blocks).length+0=i*2 from rfl,h1];rfl
   rw [e];exact .s _ h3
  | 1,hy,hsh =>
   cases hy;cases hsh;have e:xs.getD (i*(shp Kd.blocks).length+1) undef=.slice pi b.it.length ci:=by
    rw [List.getD_eq_getElem?_getD,show i*(shp Kd.blocks).length+1=i*2+1 from rfl,h2];rfl
   rw [e];exact h4.weak (fun b h=>.inl h)
  | j+2,hy,_=>simp [Bk.lf] at hy
theorem BRow.low {N B B':Nat} {w:World} {v:Value} {bs:List Bk} (h:BRow N B w v bs) (hb:B'≤B):BRow N B' w v bs:=by
 obtain⟨xs,ho,hc⟩:=h;exact⟨xs,own_low ho hb,hc⟩
end ClW
namespace ClW
open Go Go.RowKit Go.Shelf NumM LexW LexM ClM
attribute [local go_sem] Oper.semAt_some
structure KeepB (n₀ eb:Nat) (W W':World):Prop where
 size:W.heap.size≤W'.heap.size
 blk:∀ b,(b<n₀∨b=eb)→W'.heap[b]? = W.heap[b]?
theorem KeepB.refl (n₀ eb:Nat) (W:World):KeepB n₀ eb W W:=⟨Nat.le_refl _,fun _ _=>rfl⟩
theorem KeepB.trans {n₀ eb:Nat} {A B C:World} (h:KeepB n₀ eb A B) (k:KeepB n₀ eb B C):KeepB n₀ eb A C:=⟨Nat.le_trans h.size k.size,fun b hb=>(k.blk b hb).trans (h.blk b hb)⟩
end ClW
namespace ClW
open Go Go.RowKit Go.Shelf NumM LexW LexM ClM
attribute [local go_sem] Oper.semAt_some
structure FlI (w:World) (c:Cl) (W:World):Prop where
 cls:∃ pf cf pb cb,Blk W (w.heap.size+1) [.string c.nm,.string c.par,.slice pf c.fs.length cf,.slice pb c.bs.length cb]∧At (Hi (w.heap.size+3) W) W (.r .fields) (.slice pf c.fs.length cf) (.row .fields (c.fs.map Fld.lf))∧BRow w.heap.size (w.heap.size+3) W (.slice pb c.bs.length cb) c.bs
 res:Blk W w.heap.size [.string ⟨#[]⟩,.string ⟨#[]⟩,.slice none 0 0,.slice none 0 0]
 low:Below w.heap.size w W
 sz:w.heap.size+3≤W.heap.size
 pr:c.par=emp
theorem own_isCells {W:World} {B n k:Nat} {t:TypeId} {v:Value} {xs:List Value} (h:W.ownsRow B t k v n xs) {g:Nat} (e:v.ownBlock=some g):∃ o,W.heap[g]? = some o∧o.isCells=true:=by
 obtain⟨_,⟨hv,_⟩ | ⟨g',cap',cur,hv,hB,hg,_⟩⟩:=h
 ·rw [hv] at e;cases e
 ·rw [hv] at e;cases e;exact⟨_,hg,rfl⟩
theorem cell_isCells {W:World} {b o:Nat} {v:Value} (h:W.cell? ⟨b,o,none⟩=some v):∃ ob,W.heap[b]? = some ob∧ob.isCells=true:=by
 unfold World.cell? at h;cases hb:W.heap[b]? with
 | none=>simp [hb] at h
 | some ob =>
  refine⟨ob,rfl,?_⟩;cases ob<;>simp_all [Obj.isCells]
theorem lists_grown {N B:Nat} {W W':World} {row:Option Nat} {c:Cl} {v v2:Value} (h2:At (Hi B W) W (.r .fields) v (.row .fields (c.fs.map Fld.lf))) (h3:BRow N B W v2 c.bs) (hg:W.grownBy W' row) (hN:N≤W.heap.size) (hr:∀ r,row=some r→N≤r∧(r<B∨∃ o:Obj,W.heap[r]? = some o∧o.isCells=false)) :
  At (Hi B W') W' (.r .fields) v (.row .fields (c.fs.map Fld.lf))∧BRow N B W' v2 c.bs:=by
 have hsz:=hg.size;constructor
 ·refine h2.kept (fun b hb=>⟨hb.1,Nat.lt_of_lt_of_le hb.2 hsz⟩) (fun b o hb v hv=>?_);refine (World.cell?_of_block (w:=W) (a:=⟨b,o,none⟩) (hg.block b hb.2 (fun e=>?_))).trans hv;rcases (hr b e.symm).2 with h8 | ⟨ob,h8,h9⟩
  ·have:=hb.1;omega
  ·obtain⟨ob2,h10,h11⟩:=cell_isCells hv;rw [h8] at h10;cases h10;rw [h9] at h11;cases h11
 ·refine h3.grown hg hN (fun b e=>⟨(hr b e).1,fun e2=>?_⟩);obtain⟨xs,ho,_⟩:=h3;rcases (hr b e).2 with h8 | ⟨ob,h8,h9⟩
  ·have:=(ho.lt _ e2).1;omega
  ·obtain⟨ob2,h10,h11⟩:=own_isCells ho e2;rw [h8] at h10;cases h10;rw [h9] at h11;cases h11
theorem FlI.kept {w:World} {c:Cl} {W W':World} {row:Option Nat} (h:FlI w c W) (hg:W.grownBy W' row) (hr:∀ r,row=some r→w.heap.size+3≤r∧∃ o:Obj,W.heap[r]? = some o∧o.isCells=false):FlI w c W':=by
 obtain⟨⟨pf,cf,pb,cb,h1,h2,h3⟩,h4,h5,h6,h7⟩:=h;have hsz:=hg.size;have h5s:=h5.size;refine⟨⟨pf,cf,pb,cb,h1.grown hg (fun e=>by have:=(hr _ e.symm).1;omega),lists_grown h2 h3 hg h5s (fun r e=>⟨by have:=(hr r e).1;omega,.inr (hr r e).2⟩)⟩,h4.grown hg (fun e=>by have:=(hr _ e.symm).1;omega),h5.grown hg h5s (fun k e=>by have:=(hr k e).1;omega),by omega,h7⟩
end ClW
namespace ClW
open Go Go.RowKit Go.Shelf NumM LexW LexM ClM
attribute [local go_sem] Oper.semAt_some
structure CkC (N:Nat) (w:World) (cs:List Cl) (xs:List Value):Prop where
 at_:∀ (i:Nat) (c:Cl),cs[i]? = some c→∃ pf cf pb cb,xs[i*4]? = some (.string c.nm)∧xs[i*4+1]? = some (.string c.par)∧xs[i*4+2]? = some (.slice pf c.fs.length cf)∧xs[i*4+3]? = some (.slice pb c.bs.length cb)∧CV (Lo N) w pf cf pb cb c
def LRow (N B:Nat) (w:World) (v:Value) (cs:List Cl):Prop:=∃ xs,w.ownsRow B 32 4 v cs.length xs∧CkC N w cs xs
theorem CV.grown {N:Nat} {w w':World} {row:Option Nat} {pf:Option Addr} {cf:Nat} {pb:Option Addr} {cb:Nat} {c:Cl} (h:CV (Lo N) w pf cf pb cb c) (hg:w.grownBy w' row) (hN:N≤w.heap.size) (hr:∀ b,row=some b→N≤b):CV (Lo N) w' pf cf pb cb c:=⟨h.nm,h.par,h.fs.grown hg hN hr,h.bs.grown hg hN hr⟩
theorem LRow.grown {N B:Nat} {w w':World} {v:Value} {cs:List Cl} {row:Option Nat} (h:LRow N B w v cs) (hg:w.grownBy w' row) (hN:N≤w.heap.size) (hr:∀ b,row=some b→N≤b∧v.ownBlock≠some b):LRow N B w' v cs:=by
 obtain⟨xs,ho,hc⟩:=h;refine⟨xs,own_grown ho hg (fun b hb e=>(hr b e).2 hb),⟨fun i b hi=>?_⟩⟩;obtain⟨pf,cf,pb,cb,h1,h2,h3,h4,h5⟩:=hc.at_ i b hi;exact⟨pf,cf,pb,cb,h1,h2,h3,h4,h5.grown hg hN (fun b e=>(hr b e).1)⟩
theorem LRow.later {N B:Nat} {w w':World} {v:Value} {cs:List Cl} (h:LRow N B w v cs) (hb:Below w.heap.size w w') (hN:N≤w.heap.size):LRow N B w' v cs:=h.grown (grown_below hb none) hN (fun b e=>by cases e)
theorem LRow.rowA {N B:Nat} {w:World} {v:Value} {cs:List Cl} (h:LRow N B w v cs) (hl:cs.length≤100000):∃ p cap G,v=.slice p cs.length cap∧RowA (fun b=>b<N∨(B≤b∧b<w.heap.size)) w .classes p cap G (cs.map Cl.lf):=by
 obtain⟨xs,ho,hc⟩:=h;obtain⟨p,cap,rfl⟩:=own_len ho;refine⟨p,cap,_,rfl,rowA_own (k:=.classes) ho (List.length_map _) (by simp only [byt];omega) (fun i x hx=>?_) (fun i x j y sh hx hy hsh=>?_) (fun g h1 h2 h3=>.inr ⟨h1,h2⟩)⟩
 ·rw [List.getElem?_map] at hx;obtain⟨b,_,rfl⟩:=Option.map_eq_some_iff.1 hx;rfl
 ·rw [List.getElem?_map] at hx;obtain⟨b,hb,rfl⟩:=Option.map_eq_some_iff.1 hx;obtain⟨pf,cf,pb,cb,h1,h2,h3,h4,h5⟩:=hc.at_ i b hb;match j,hy,hsh with
  | 0,hy,hsh =>
   cases hy;cases hsh;have e:xs.getD (i*(shp Kd.classes).length+0) undef=.string b.nm:=by
    rw [List.getD_eq_getElem?_getD,show i*(shp Kd.classes).length+0=i*4 from rfl,h1];rfl
   rw [e];exact .s _ h5.nm
  | 1,hy,hsh =>
   cases hy;cases hsh;have e:xs.getD (i*(shp Kd.classes).length+1) undef=.string b.par:=by
    rw [List.getD_eq_getElem?_getD,show i*(shp Kd.classes).length+1=i*4+1 from rfl,h2];rfl
   rw [e];exact .s _ h5.par
  | 2,hy,hsh =>
   cases hy;cases hsh;have e:xs.getD (i*(shp Kd.classes).length+2) undef=.slice pf b.fs.length cf:=by
    rw [List.getD_eq_getElem?_getD,show i*(shp Kd.classes).length+2=i*4+2 from rfl,h3];rfl
   rw [e];exact h5.fs.weak (fun b h=>.inl h)
  | 3,hy,hsh =>
   cases hy;cases hsh;have e:xs.getD (i*(shp Kd.classes).length+3) undef=.slice pb b.bs.length cb:=by
    rw [List.getD_eq_getElem?_getD,show i*(shp Kd.classes).length+3=i*4+3 from rfl,h4];rfl
   rw [e];exact h5.bs.weak (fun b h=>.inl h)
  | j+4,hy,_=>simp [Cl.lf] at hy
theorem CkC.grown {N:Nat} {w w':World} {cs:List Cl} {xs:List Value} {row:Option Nat} (hc:CkC N w cs xs) (hg:w.grownBy w' row) (hN:N≤w.heap.size) (hr:∀ b,row=some b→N≤b):CkC N w' cs xs :=
 ⟨fun i b hi=>by
  obtain⟨pf,cf,pb,cb,h1,h2,h3,h4,h5⟩:=hc.at_ i b hi;exact⟨pf,cf,pb,cb,h1,h2,h3,h4,h5.grown hg hN hr⟩⟩
theorem same_nil {a:ByteArray} {v:Bool} (h:same a emp=v):(a.toList == ([]:List UInt8))=v:=by
 have:=same_walk h
 simpa [emp] using this
end ClW
namespace ClW
open Go Go.RowKit NumM LexW LexM ClM
open Go.«Sort»
theorem namesF_any (l:List Fld) (p:Option Addr) (cap:Nat) (G:Nat→Nat→Value) (N:Nat) (w:World) (ha:RowA (Lo N) w .fields p cap G (l.map Fld.lf)) (hN:N≤w.heap.size) :
  Calls Tryz.prog 57 #[.slice p l.length cap,.func (.func 58) #[] #[]] w (tStrs (l.map Fld.nm) w):=by
 obtain⟨i0,hi,hz0,hz1,hz2⟩:=info_parts infoS;have HA:=Lh ha;have hl:=ha.hl;rw [List.length_map] at hl;simp only [byt] at hl;have HP:Hid (∀ v w',w'.ownsRow w.heap.size 9 1 v l.length (l.map (fun c=>Value.string c.nm))→Below w.heap.size w w'→tStrs (l.map Fld.nm) w (.returned v) w'):=(Lh fun v w' ho hb=>⟨v,rfl,by rw [List.length_map,List.map_map];exact ho,hb⟩);obtain⟨K,hK⟩:∃ K,l.length=K:=⟨_,rfl⟩;have HK:=Lh hK;rw [hK] at hl HP ⊢;have hk:K≤140737488351232:=(by omega);clear hK ha;have HB0:=Lh (Below.refl w.heap.size w);have HO0:=Lh (World.ownsRow_nil w w.heap.size 9 1)
 go_enter Tryz.func57,Tryz.ntmps57
 go_wp2;go_loopw [5,10] (fun u i wr=>∃ j:Nat,j≤K∧i=.int .i64 j∧Hid (wr.ownsRow w.heap.size 9 1 u j ((l.take j).map (fun c=>Value.string c.nm)))∧Hid (Below w.heap.size w wr)) (fun _ i _=>K - (intOf i).toNat)
 case atStart=>exact⟨0,Nat.zero_le _,rfl,HO0,HB0⟩
 case round =>
  obtain⟨j,hj,rfl,OW,BW⟩:=hrel;by_cases hlt:j<K
  ·obtain⟨c,hc⟩:∃ c,l[j]? = some c:=⟨_,List.getElem?_eq_getElem (by rw [HK.out];exact hlt)⟩;have hbw:Below N w wr:=BW.out.mono hN;obtain⟨b,off,rfl,hb,c0,c1,c2,c3,c4,hsz⟩:=(HA.out.under hbw).fd hc;have FN:=Blk.new wr [.string c.nm,.int .i64 c.wd,.int .i64 c.sz,.int .i64 c.md,.int .i64 c.ini] 55;have d0:=FN.c 0 _ rfl;have d1:=FN.c 1 _ rfl;have d2:=FN.c 2 _ rfl;have d3:=FN.c 3 _ rfl;have d4:=FN.c 4 _ rfl;have MS:=Lh (map_snoc (f:=fun c:Fld=>Value.string c.nm) hc);have HBA:Hid (Below w.heap.size w (wr.alloc (.cells [.string c.nm,.int .i64 c.wd,.int .i64 c.sz,.int .i64 c.md,.int .i64 c.ini].toArray 55))):=Lh (BW.out.alloc BW.out.size _);have OA:=Lh (OW.out.alloc (.cells [.string c.nm,.int .i64 c.wd,.int .i64 c.sz,.int .i64 c.md,.int .i64 c.ini].toArray 55));obtain⟨q,qc,rfl⟩:=own_len OW.out;clear hc hbw FN OW;go_wp2_with (first
    |(go_at_call 58;((with_reducible refine (fName_any _ _ _ _ _ _).mono ?_);rintro e w1 ⟨rfl,hb1⟩;have OB:=Lh ((own_later OA.out hb1).alloc (.cells #[.string c.nm] 9));have HB1:=Lh (HBA.out.then_ hb1);have HB2:=Lh (HB1.out.alloc HB1.out.size (.cells #[.string c.nm] 9));clear hb1))
    |(at_builtin;go_loud (refine wpList_append_own _ rfl _ _ 43 rfl w.heap.size 9 i0 (.string ⟨#[]⟩) 1 16 Tryz.underlying43 hi hz0 hz1 hz2 rfl (by decide) _ j _ rfl OB.out ⟨w1.heap.size,0,none⟩ 1 1 [.string c.nm] rfl rfl (cell_one_at rfl _ _) (by simp [Value.oneCell']) (by unfold maxLen;omega) (by omega) HB2.out.size ?_);go_loud (intro v' w2 hown' hgrow _;have O2:=Lh hown';have H2:=Lh (HB2.out.grown hgrow HB2.out.size (own_block OB.out));clear hown' hgrow)))
   go_roundw
   case rel=>exact⟨j+1,by omega,by go_num,by rw [MS.out];exact O2,H2⟩
   case measure=>simp [intOf];omega
  ·have OF:Hid (wr.ownsRow w.heap.size 9 1 u5 K (l.map (fun c=>Value.string c.nm))):=Lh (by have:=OW.out;rw [show j=K by omega,List.take_of_length_le (by rw [HK.out];exact Nat.le_refl _)] at this;exact this);go_wp2;go_ret;exact HP.out _ _ OF.out BW.out
theorem namesB_any (l:List Bk) (p:Option Addr) (cap:Nat) (G:Nat→Nat→Value) (N:Nat) (w:World) (ha:RowA (Lo N) w .blocks p cap G (l.map Bk.lf)) (hN:N≤w.heap.size) :
  Calls Tryz.prog 52 #[.slice p l.length cap,.func (.func 53) #[] #[]] w (tStrs (l.map Bk.nm) w):=by
 obtain⟨i0,hi,hz0,hz1,hz2⟩:=info_parts infoS;have HA:=Lh ha;have hl:=ha.hl;rw [List.length_map] at hl;simp only [byt] at hl;have HP:Hid (∀ v w',w'.ownsRow w.heap.size 9 1 v l.length (l.map (fun c=>Value.string c.nm))→Below w.heap.size w w'→tStrs (l.map Bk.nm) w (.returned v) w'):=(Lh fun v w' ho hb=>⟨v,rfl,by rw [List.length_map,List.map_map];exact ho,hb⟩);obtain⟨K,hK⟩:∃ K,l.length=K:=⟨_,rfl⟩;have HK:=Lh hK;rw [hK] at hl HP ⊢;have hk:K≤140737488351232:=(by omega);clear hK ha;have HB0:=Lh (Below.refl w.heap.size w);have HO0:=Lh (World.ownsRow_nil w w.heap.size 9 1)
 go_enter Tryz.func52,Tryz.ntmps52
 go_wp2;go_loopw [5,10] (fun u i wr=>∃ j:Nat,j≤K∧i=.int .i64 j∧Hid (wr.ownsRow w.heap.size 9 1 u j ((l.take j).map (fun c=>Value.string c.nm)))∧Hid (Below w.heap.size w wr)) (fun _ i _=>K - (intOf i).toNat)
 case atStart=>exact⟨0,Nat.zero_le _,rfl,HO0,HB0⟩
 case round =>
  obtain⟨j,hj,rfl,OW,BW⟩:=hrel;by_cases hlt:j<K
  ·obtain⟨c,hc⟩:∃ c,l[j]? = some c:=⟨_,List.getElem?_eq_getElem (by rw [HK.out];exact hlt)⟩;have hbw:Below N w wr:=BW.out.mono hN;obtain⟨b,off,pi,ci,rfl,hb,c0,c1,hsz,_⟩:=(HA.out.under hbw).bk hc;have FN:=Blk.new wr [.string c.nm,.slice pi c.it.length ci] 57;have d0:=FN.c 0 _ rfl;have d1:=FN.c 1 _ rfl;have MS:=Lh (map_snoc (f:=fun c:Bk=>Value.string c.nm) hc);have HBA:Hid (Below w.heap.size w (wr.alloc (.cells [.string c.nm,.slice pi c.it.length ci].toArray 57))):=Lh (BW.out.alloc BW.out.size _);have OA:=Lh (OW.out.alloc (.cells [.string c.nm,.slice pi c.it.length ci].toArray 57));obtain⟨q,qc,rfl⟩:=own_len OW.out;clear hc hbw FN OW;go_wp2_with (first
    |(go_at_call 53;((with_reducible refine (bName_any _ _ _).mono ?_);rintro e w1 ⟨rfl,hb1⟩;have OB:=Lh ((own_later OA.out hb1).alloc (.cells #[.string c.nm] 9));have HB1:=Lh (HBA.out.then_ hb1);have HB2:=Lh (HB1.out.alloc HB1.out.size (.cells #[.string c.nm] 9));clear hb1))
    |(at_builtin;go_loud (refine wpList_append_own _ rfl _ _ 43 rfl w.heap.size 9 i0 (.string ⟨#[]⟩) 1 16 Tryz.underlying43 hi hz0 hz1 hz2 rfl (by decide) _ j _ rfl OB.out ⟨w1.heap.size,0,none⟩ 1 1 [.string c.nm] rfl rfl (cell_one_at rfl _ _) (by simp [Value.oneCell']) (by unfold maxLen;omega) (by omega) HB2.out.size ?_);go_loud (intro v' w2 hown' hgrow _;have O2:=Lh hown';have H2:=Lh (HB2.out.grown hgrow HB2.out.size (own_block OB.out));clear hown' hgrow)))
   go_roundw
   case rel=>exact⟨j+1,by omega,by go_num,by rw [MS.out];exact O2,H2⟩
   case measure=>simp [intOf];omega
  ·have OF:Hid (wr.ownsRow w.heap.size 9 1 u5 K (l.map (fun c=>Value.string c.nm))):=Lh (by have:=OW.out;rw [show j=K by omega,List.take_of_length_le (by rw [HK.out];exact Nat.le_refl _)] at this;exact this);go_wp2;go_ret;exact HP.out _ _ OF.out BW.out
def nmD (l:List ByteArray):DataW Unit:=l.foldl (fun D s=>D.put (.string s.data.toList) (.lit (.bool true))) (.map [])
theorem nmD_snoc (l:List ByteArray) (s:ByteArray):nmD (l++[s])=(nmD l).put (.string s.data.toList) (.lit (.bool true)):=by
 unfold nmD;rw [List.foldl_append];rfl
theorem put_map {D:DataW Unit} (h:Maps.IsMap D) (k:Lit) (d:DataW Unit):Maps.IsMap (D.put k d):=by
 cases D<;>simp_all [Maps.IsMap,DataW.put]
theorem nmD_map (l:List ByteArray):Maps.IsMap (nmD l):=by
 have:∀ (l:List ByteArray) (D:DataW Unit),Maps.IsMap D→Maps.IsMap (l.foldl (fun D s=>D.put (.string s.data.toList) (.lit (.bool true))) D):=by
  intro l;induction l with
  | nil=>intro D h;exact h
  | cons a r ih=>intro D h;exact ih _ (put_map h _ _)
 exact this l _ (by simp [Maps.IsMap])
open Classical in
theorem nmD_at (t:ByteArray) (l:List ByteArray):(nmD l).atKey (.string t.data.toList) (.lit (.bool false))=.lit (.bool (decide (t∈l))):=by
 have:∀ n (l:List ByteArray),l.length=n→(nmD l).atKey (.string t.data.toList) (.lit (.bool false))=.lit (.bool (decide (t∈l))):=by
  intro n;induction n with
  | zero =>
   intro l hl;obtain rfl:=List.length_eq_zero_iff.1 hl;simp [nmD,DataW.atKey]
  | succ n ih =>
   intro l hl;obtain⟨r,a,rfl⟩:∃ r a,l=r++[a]:=by
    cases hx:l.reverse with
    | nil=>rw [List.reverse_eq_nil_iff] at hx;rw [hx] at hl;simp at hl
    | cons a r=>exact⟨r.reverse,a,by rw [←List.reverse_reverse l,hx];simp⟩
   have hr:r.length=n:=(by simp at hl;omega);rw [nmD_snoc];by_cases e:t=a
   ·subst e;rw [Maps.atKey_put_same (nmD_map r) (by simp [WideAt.IsKeyLit])];simp
   ·rw [Maps.atKey_put_other (by
     intro x;simp only [Lit.string.injEq] at x;exact e (by rw [←bs_data t,←bs_data a,x])),ih r hr]
    simp [e]
 exact this _ l rfl
theorem plainBool {P:Program} {e:TypeId} (he:P.underlying e=some .bool) {v:Value} {z:DataW Unit × List MemPlace} {c:Bool} (h:plainElem (H:=Unit) P e v=some z) (hz:z.1=.lit (.bool c)):v=.bool c:=by
 unfold plainElem at h;rw [he] at h;cases v<;>simp at h
 subst h
 simpa using hz
open Classical in
theorem look_nm {W:World} {M n:Nat} {l:List ByteArray} (h:W.ownsMap Tryz.prog 9 (plainElem (H:=Unit) Tryz.prog 4) M n (nmD l)) (t:ByteArray) (ht:t.size≤maxLen) :
  (Instr.lookup 119 (.map (some M)) (.string t) false).run Tryz.prog W=.ok (.bool (decide (t∈l))) W:=by
 obtain⟨v,ps,hrun,hv⟩:=h.lookup (Maps.string_keyed Tryz.underlying9) Tryz.underlying119 (Tryz.zeroValue4 W) (plainElem_bool Tryz.underlying4 false) (Go.WideMaps.keyOf_string_mk Tryz.underlying9 ht);rw [hrun,plainBool Tryz.underlying4 hv (nmD_at t l)]
theorem nmD_no {l:List ByteArray} {s:ByteArray} {k:Nat} (h:l[k]? = some s):nmD (l.take (k+1))=(nmD (l.take k)).put (.string s.data.toList) (.lit (.bool true)):=by
 obtain⟨hk,he⟩:=List.getElem?_eq_some_iff.1 h;rw [List.take_succ_eq_append_getElem hk,nmD_snoc,he]
theorem repeats_any (l:List ByteArray) (p:Option Addr) (cap:Nat) (G:Nat→Nat→Value) (N:Nat) (w:World) (ha:RowA (Lo N) w .strs p cap G (SL l)) (hN:N≤w.heap.size) :
  Calls Tryz.prog 56 #[.slice p l.length cap] w (tBool (dupB l) w):=by
 have HA:=Lh ha;have hl:=ha.hl;rw [SL_len] at hl;simp only [byt] at hl;obtain⟨K,hK⟩:∃ K,l.length=K:=⟨_,rfl⟩;have HK:=Lh hK;rw [hK] at hl ⊢;have hk:K≤140737488351232:=(by omega);clear hK ha;have hmm:=@run_makeMap Tryz.prog;have HB0:=Lh (ba w (.map #[] 0));have HM0:=Lh (World.ownsMap_made w Tryz.prog 9 (plainElem (H:=Unit) Tryz.prog 4))
 go_enter Tryz.func56,Tryz.ntmps56
 go_wp2;clear hmm;go_loopw [9] (fun i wr=>∃ j:Nat,j≤K∧i=.int .i64 j∧Hid (wr.ownsMap Tryz.prog 9 (plainElem (H:=Unit) Tryz.prog 4) w.heap.size j (nmD (l.take j)))∧Hid (dupB (l.take j)=false)∧Hid (Below w.heap.size w wr)) (fun i _=>K - (intOf i).toNat)
 case atStart=>exact⟨0,Nat.zero_le _,rfl,HM0,Lh rfl,HB0⟩
 case round =>
  obtain⟨j,hj,rfl,OM,DF,BW⟩:=hrel;by_cases hlt:j<K
  ·obtain⟨s,hs⟩:∃ s,l[j]? = some s:=⟨_,List.getElem?_eq_getElem (by rw [HK.out];exact hlt)⟩;have hbw:Below N w wr:=BW.out.mono hN;obtain⟨b,off,rfl,hb,c0,hsz⟩:=(HA.out.under hbw).stS hs;have hlk:=look_nm OM.out s (Nat.le_trans hsz (by decide));have HS:=Lh hs;clear hs hbw;by_cases hin:s∈l.take j
   ·rw [@decide_eq_true _ (Classical.propDecidable _) hin] at hlk;have DT:=Lh (dupB_yes HS.out hin);clear hin;go_wp2;go_ret;exact⟨by rw [DT.out];rfl,BW.out⟩
   ·rw [@decide_eq_false _ (Classical.propDecidable _) hin] at hlk;have DF2:=Lh (dupB_step HS.out DF.out hin);have ND:=Lh (nmD_no HS.out);obtain⟨w1,hup,hown1,hgrow1⟩:=OM.out.update (Maps.string_keyed Tryz.underlying9) Tryz.underlying119 (Nat.lt_of_le_of_lt (show j≤140737488351232 by omega) (by decide)) (Go.WideMaps.keyOf_string_mk Tryz.underlying9 (Nat.le_trans hsz (by decide))) (plainElem_bool Tryz.underlying4 true);have HO1:=Lh hown1;have HB1:=Lh (BW.out.grown hgrow1 BW.out.size (fun k e=>by cases e;exact Nat.le_refl _));clear hin hown1 hgrow1;go_wp2;go_roundw
    case rel=>exact⟨j+1,by omega,by go_num,by rw [ND.out];exact HO1,DF2,HB1⟩
    case measure=>simp [intOf];omega
  ·have DF2:Hid (dupB l=false):=Lh (by have:=DF.out;rw [List.take_of_length_le (by rw [HK.out];omega)] at this;exact this);go_wp2;go_ret;exact⟨by rw [DF2.out];rfl,BW.out⟩
end ClW
namespace ClW
open Go Go.RowKit NumM LexW LexM ClM
theorem RowA.fsz {S:Nat→Prop} {w:World} {p:Option Addr} {cap:Nat} {F:Nat→Nat→Value} {fs:List Fld} (h:RowA S w .fields p cap F (fs.map Fld.lf)):∀ s∈fs.map Fld.nm,s.size≤140737488351232:=by
 intro s hs;obtain⟨f,hf,rfl⟩:=List.mem_map.1 hs;obtain⟨i,hi⟩:=List.getElem?_of_mem hf;obtain⟨_,_,_,_,_,_,_,_,_,h⟩:=h.fd hi;exact h
theorem RowA.bsz {S:Nat→Prop} {w:World} {p:Option Addr} {cap:Nat} {F:Nat→Nat→Value} {fs:List Bk} (h:RowA S w .blocks p cap F (fs.map Bk.lf)):∀ s∈fs.map Bk.nm,s.size≤140737488351232:=by
 intro s hs;obtain⟨f,hf,rfl⟩:=List.mem_map.1 hs;obtain⟨i,hi⟩:=List.getElem?_of_mem hf;obtain⟨_,_,_,_,_,_,_,_,h,_⟩:=h.bk hi;exact h
theorem LRow.toLo {N:Nat} {w:World} {v:Value} {cs:List Cl} {B:Nat} (h:LRow N B w v cs) (hl:cs.length≤100000) (hN:N≤w.heap.size):∃ p cap G,v=.slice p cs.length cap∧RowA (Lo w.heap.size) w .classes p cap G (cs.map Cl.lf):=by
 obtain⟨p,cap,G,e,r⟩:=h.rowA hl;exact⟨p,cap,G,e,r.kept (fun b hb=>by rcases hb with hb | hb;exact Nat.lt_of_lt_of_le hb hN;exact hb.2) (fun _ _ _ _ hv=>hv)⟩
theorem reps_of {α:Type} (l:List α) (f:α→ByteArray) (p:Option Addr) (c:Nat) (G:Nat→Nat→Value) (N:Nat) (w:World) (ha:RowA (Lo N) w .strs p c G (SL (l.map f))) (hN:N≤w.heap.size):Calls Tryz.prog 56 #[.slice p l.length c] w (tBool (dupB (l.map f)) w):=by
 have:=repeats_any (l.map f) p c G N w ha hN;rw [List.length_map] at this;exact this
theorem noName_of {α:Type} (l:List α) (f:α→ByteArray) (p:Option Addr) (c:Nat) (G:Nat→Nat→Value) (N:Nat) (w:World) (ha:RowA (Lo N) w .strs p c G (SL (l.map f))) (hN:N≤w.heap.size) (ht:Tab w):Calls Tryz.prog 54 #[.slice p l.length c,.func (.func 55) #[] #[]] w (tBool ((l.map f).any bad) w):=by
 have:=noName_has (l.map f) bad p c G N w ha hN (fun s _ W hW hs=>isNo_any s W hs (ht.later hW));rw [List.length_map] at this;exact this
end ClW
end Go.Proofs.YtihnejaopejbgaaGreatDoor
