/-
  Laws that the card uses; no conditions beside those that each states (CtMem CtFld).
-/
import Derived.Lib.OthersKept
import Derived.Test.YtihnejaopejbgaaGreatDoorP13
import Derived.Test.YtihnejaopejbgaaGreatDoorP14
import Derived.Test.YtihnejaopejbgaaGreatDoorP15
set_option maxRecDepth 100000
set_option maxHeartbeats 16000000
namespace Go.Proofs.YtihnejaopejbgaaGreatDoor
namespace CtW
open Go Go.RowKit NumM LexW ExW ItW LexM ExM EtM EtW ItM CtM
open ClM (Fld Lf Kd Sh shp byt Cl Bk)
open ClW (At RowA Lo CV)
mutual
def exLf:Ex→List Lf
 | .mk o n s ks=>[.n o,.n n,.s s,.row .exprs (exsLf ks)]
def exsLf:List Ex→List (List Lf)
 | []=>[]
 | a::r=>exLf a::exsLf r
end
theorem exsLf_map (l:List Ex):exsLf l=l.map exLf:=by
 induction l with
 | nil=>rw [exsLf];rfl
 | cons a r ih=>rw [exsLf,ih];rfl
theorem exLf_eq (e:Ex):exLf e=[.n e.op,.n e.n,.s e.nm,.row .exprs (e.args.map exLf)]:=by
 cases e;rw [exLf,exsLf_map];rfl
def wtLf (t:Wt):List Lf:=[.n t.lo,.n t.hi,.n t.wt,.b t.ea]
def stLf (s:ByteArray):List Lf:=[.s s]
mutual
def itLf:It→List Lf
 | .mk kd e nm ix ws it el bf af=>[.n kd,.n e.op,.n e.n,.s e.nm,.row .exprs (e.args.map exLf),.s nm,.s ix,.row .weights (ws.map wtLf),.row .items (itsLf it),.row .items (itsLf el),.row .strs (bf.map stLf),.row .strs (af.map stLf)]
def itsLf:List It→List (List Lf)
 | []=>[]
 | a::r=>itLf a::itsLf r
end
theorem itsLf_map (l:List It):itsLf l=l.map itLf:=by
 induction l with
 | nil=>rw [itsLf];rfl
 | cons a r ih=>rw [itsLf,ih];rfl
theorem itLf_eq (x:It):itLf x=[.n x.kd,.n x.e.op,.n x.e.n,.s x.e.nm,.row .exprs (x.e.args.map exLf),.s x.nm,.s x.ix,.row .weights (x.ws.map wtLf),.row .items (x.it.map itLf),.row .items (x.el.map itLf),.row .strs (x.bf.map stLf),.row .strs (x.af.map stLf)]:=by
 cases x;rw [itLf,itsLf_map,itsLf_map];rfl
theorem row_at {α:Type} {N:Nat} {w:World} (k:Kd) (f:α→List Lf) (l:List α) (p:Option Addr) (cap n:Nat) (hn:n=l.length) (hl:l.length*byt k≤140737488351232) (hc:l.length≤cap)
  (hp:0<l.length→∃ b off,p=some ⟨b,off,none⟩∧b<N∧∀ (i:Nat) (x:α),l[i]? = some x→∀ (j:Nat) (y:Lf) (sh:Sh),(f x)[j]? = some y→(shp k)[j]? = some sh→∃ v,w.cell? ⟨b,off+i*(shp k).length+j,none⟩=some v∧At (Lo N) w sh v y)
  (hf:∀ x,(f x).length=(shp k).length):At (Lo N) w (.r k) (.slice p n cap) (.row k (l.map f)):=by
 have e:n=(l.map f).length:=(by rw [List.length_map];exact hn);rw [e];by_cases h0:0<l.length
 ·obtain⟨b,off,rfl,hb,hcell⟩:=hp h0;refine .row k (l.map f) (some ⟨b,off,none⟩) cap (fun i j=>(w.cell? ⟨b,off+i*(shp k).length+j,none⟩).getD (.bool false)) (by rw [List.length_map];exact hl) (by rw [List.length_map];exact hc) (fun _=>⟨b,off,rfl,hb,fun i j hi hj=>?_⟩) (fun i x hx=>?_) (fun i x j y sh hx hy hs=>?_)
  ·rw [List.length_map] at hi;have hx:l[i]? = some l[i]:=List.getElem?_eq_getElem hi;obtain⟨v,hv,_⟩:=hcell i _ hx j ((f l[i])[j]'(by rw [hf];exact hj)) ((shp k)[j]) (List.getElem?_eq_getElem _) (List.getElem?_eq_getElem _);rw [hv];rfl
  ·rw [List.getElem?_map] at hx;obtain⟨a,_,rfl⟩:=Option.map_eq_some_iff.1 hx;exact hf a
  ·rw [List.getElem?_map] at hx;obtain⟨a,ha,rfl⟩:=Option.map_eq_some_iff.1 hx;obtain⟨v,hv,hat⟩:=hcell i a ha j y sh hy hs;show At (Lo N) w sh ((w.cell? _).getD _) y;rw [hv];exact hat
 ·have hz:l=[]:=List.length_eq_zero_iff.1 (by omega);subst hz;exact ClW.At.nilRow k p cap
theorem ex_row {N:Nat} {w:World} {v:Value} {e:Ex} (h:ExAt N w v e):∃ o n s p cap,v=xv o n s (.slice p e.args.length cap)∧At (Lo N) w (.r .exprs) (.slice p e.args.length cap) (.row .exprs (e.args.map exLf)):=by
 induction h with
 | @mk o n s ks p cap pl cl hs hl hc hp hx ih =>
  refine⟨o,n,s,p,cap,rfl,?_⟩;show At (Lo N) w (.r .exprs) (.slice p ks.length cap) (.row .exprs (ks.map exLf));refine row_at .exprs exLf ks p cap ks.length rfl hl hc (fun h0=>?_) (fun x=>by rw [exLf_eq];rfl);obtain⟨b,off,rfl,hb,hcell⟩:=hp h0;refine⟨b,off,rfl,hb,fun i x hx' j y sh hy hs'=>?_⟩;obtain⟨c0,c1,c2,c3⟩:=hcell i x hx';obtain⟨_,_,_,q,k,e,hat⟩:=ih i x hx';have hnm:x.nm.size≤140737488351232:=(by obtain⟨_,_,_,_,_,hz,_⟩:=(hx i x hx').form;exact hz);rw [exLf_eq] at hy;match j,hy,hs' with
  | 0,hy,hs'=>cases hy;cases hs';exact⟨_,c0,.n _⟩
  | 1,hy,hs'=>cases hy;cases hs';exact⟨_,c1,.n _⟩
  | 2,hy,hs'=>cases hy;cases hs';exact⟨_,c2,.s _ hnm⟩
  | 3,hy,hs' =>
   cases hy;cases hs';refine⟨_,c3,?_⟩;simp at e;obtain⟨_,_,_,e1,e2⟩:=e;rw [e1,e2];exact hat
  | j+4,hy,_=>simp at hy
theorem st_row {N:Nat} {w:World} {v:Value} {l:List ByteArray} (h:StA N w v l):At (Lo N) w (.r .strs) v (.row .strs (l.map stLf)):=by
 obtain⟨p,cap,rfl,h1,h2,h3,h4⟩:=h;refine row_at .strs stLf l p cap l.length rfl h1 h2 (fun h0=>?_) (fun _=>rfl);obtain⟨b,off,rfl,hb,hcell⟩:=h4 h0;refine⟨b,off,rfl,hb,fun i x hx j y sh hy hs=>?_⟩;match j,hy,hs with
 | 0,hy,hs=>cases hy;cases hs;exact⟨_,by have:=hcell i x hx;simpa [shp] using this,.s _ (h3 x (List.mem_of_getElem? hx))⟩
 | j+1,hy,_=>simp [stLf] at hy
theorem wt_row {N:Nat} {w:World} {v:Value} {l:List Wt} (h:WtA N w v l):At (Lo N) w (.r .weights) v (.row .weights (l.map wtLf)):=by
 obtain⟨p,cap,rfl,h1,h2,h4⟩:=h;refine row_at .weights wtLf l p cap l.length rfl h1 h2 (fun h0=>?_) (fun _=>rfl);obtain⟨b,off,rfl,hb,hcell⟩:=h4 h0;refine⟨b,off,rfl,hb,fun i x hx j y sh hy hs=>?_⟩;obtain⟨c0,c1,c2,c3⟩:=hcell i x hx;match j,hy,hs with
 | 0,hy,hs=>cases hy;cases hs;exact⟨_,c0,.n _⟩
 | 1,hy,hs=>cases hy;cases hs;exact⟨_,c1,.n _⟩
 | 2,hy,hs=>cases hy;cases hs;exact⟨_,c2,.n _⟩
 | 3,hy,hs=>cases hy;cases hs;exact⟨_,c3,.b _⟩
 | j+4,hy,_=>simp [wtLf] at hy
theorem its_row {N:Nat} {w:World} {v:Value} {l:List It} (h:ItsA N w v l):At (Lo N) w (.r .items) v (.row .items (l.map itLf)):=by
 induction h with
 | mk p cap l V hl hc hp hn he hw hi hx hb hf ih1 ih2 =>
  refine row_at .items itLf l p cap l.length rfl hl hc (fun h0=>?_) (fun x=>by rw [itLf_eq];rfl);obtain⟨b,off,rfl,hlt,hcell⟩:=hp h0;refine⟨b,off,rfl,hlt,fun i x hx' j y sh hy hs'=>?_⟩;have C:=hcell i x hx';obtain⟨n1,n2⟩:=hn i x hx';obtain⟨_,_,_,q,k,e,hat⟩:=ex_row (he i x hx');have e4:V i 4=.slice q x.e.args.length k:=by
   have h:=e;simp at h;exact h.2.2.2
  have hnm:x.e.nm.size≤140737488351232:=(by obtain⟨_,_,_,_,_,hz,_⟩:=(he i x hx').form;exact hz);rw [itLf_eq] at hy;match j,hy,hs' with
  | 0,hy,hs'=>cases hy;cases hs';exact⟨_,C.c0,.n _⟩
  | 1,hy,hs'=>cases hy;cases hs';exact⟨_,C.c1,.n _⟩
  | 2,hy,hs'=>cases hy;cases hs';exact⟨_,C.c2,.n _⟩
  | 3,hy,hs'=>cases hy;cases hs';exact⟨_,C.c3,.s _ hnm⟩
  | 4,hy,hs'=>cases hy;cases hs';exact⟨_,C.c4,by rw [e4];exact hat⟩
  | 5,hy,hs'=>cases hy;cases hs';exact⟨_,C.c5,.s _ n1⟩
  | 6,hy,hs'=>cases hy;cases hs';exact⟨_,C.c6,.s _ n2⟩
  | 7,hy,hs'=>cases hy;cases hs';exact⟨_,C.c7,wt_row (hw i x hx')⟩
  | 8,hy,hs'=>cases hy;cases hs';exact⟨_,C.c8,ih1 i x hx'⟩
  | 9,hy,hs'=>cases hy;cases hs';exact⟨_,C.c9,ih2 i x hx'⟩
  | 10,hy,hs'=>cases hy;cases hs';exact⟨_,C.c10,st_row (hb i x hx')⟩
  | 11,hy,hs'=>cases hy;cases hs';exact⟨_,C.c11,st_row (hf i x hx')⟩
  | j+12,hy,_=>simp at hy
def BksA (N:Nat) (w:World) (v:Value) (l:List (ByteArray × List It)):Prop :=
 ∃ (p:Option Addr) (cap:Nat) (V:Nat→Value),v=.slice p l.length cap∧l.length*40≤140737488351232∧l.length≤cap∧(∀ (i:Nat) (b:ByteArray × List It),l[i]? = some b→b.1.size≤140737488351232∧ItsA N w (V i) b.2) ∧
  (0<l.length→∃ g off,p=some ⟨g,off,none⟩∧g<N∧∀ (i:Nat) (b:ByteArray × List It),l[i]? = some b→w.cell? ⟨g,off+i*2,none⟩=some (.string b.1)∧w.cell? ⟨g,off+i*2+1,none⟩=some (V i))
theorem BksA.kept {N N':Nat} {w w':World} (hk:∀ b o,b<N→∀ v,w.cell? ⟨b,o,none⟩=some v→w'.cell? ⟨b,o,none⟩=some v) (hN:N≤N') {v:Value} {l:List (ByteArray × List It)} (h:BksA N w v l):BksA N' w' v l:=by
 obtain⟨p,cap,V,e,h1,h2,h3,h4⟩:=h;refine⟨p,cap,V,e,h1,h2,fun i b hb=>⟨(h3 i b hb).1,(h3 i b hb).2.kept hk hN⟩,fun h0=>?_⟩;obtain⟨g,off,e,hg,hc⟩:=h4 h0;exact⟨g,off,e,by omega,fun i b hb=>⟨hk _ _ hg _ (hc i b hb).1,hk _ _ hg _ (hc i b hb).2⟩⟩
theorem BksA.under {N:Nat} {w w':World} (hb:Below N w w') {v:Value} {l:List (ByteArray × List It)} (h:BksA N w v l):BksA N w' v l:=h.kept (low_cells hb) (Nat.le_refl _)
theorem BksA.wide {N N':Nat} {w:World} (hN:N≤N') {v:Value} {l:List (ByteArray × List It)} (h:BksA N w v l):BksA N' w v l:=h.kept (fun _ _ _ _ hv=>hv) hN
def bkOf (b:ByteArray × List It):Bk:=⟨b.1,b.2.map itLf⟩
def clOf (k:Kl):Cl:=⟨k.nm,k.par,k.fs,k.bs.map bkOf⟩
structure KA (N:Nat) (w:World) (pf:Option Addr) (cf:Nat) (pb:Option Addr) (cb:Nat) (k:Kl):Prop where
 nm:k.nm.size≤140737488351232
 par:k.par.size≤140737488351232
 fs:At (Lo N) w (.r .fields) (.slice pf k.fs.length cf) (.row .fields (k.fs.map Fld.lf))
 bs:BksA N w (.slice pb k.bs.length cb) k.bs
theorem KA.under {N:Nat} {w w':World} (hb:Below N w w') {pf:Option Addr} {cf:Nat} {pb:Option Addr} {cb:Nat} {k:Kl} (h:KA N w pf cf pb cb k):KA N w' pf cf pb cb k:=⟨h.nm,h.par,h.fs.under hb,h.bs.under hb⟩
theorem KA.wide {N N':Nat} {w:World} (hN:N≤N') {pf:Option Addr} {cf:Nat} {pb:Option Addr} {cb:Nat} {k:Kl} (h:KA N w pf cf pb cb k):KA N' w pf cf pb cb k:=⟨h.nm,h.par,h.fs.wide hN,h.bs.wide hN⟩
theorem bks_row {N:Nat} {w:World} {v:Value} {l:List (ByteArray × List It)} (h:BksA N w v l):At (Lo N) w (.r .blocks) v (.row .blocks ((l.map bkOf).map Bk.lf)):=by
 obtain⟨p,cap,V,rfl,h1,h2,h3,h4⟩:=h;rw [List.map_map];refine row_at .blocks _ l p cap l.length rfl h1 h2 (fun h0=>?_) (fun _=>rfl);obtain⟨g,off,rfl,hg,hcell⟩:=h4 h0;refine⟨g,off,rfl,hg,fun i x hx j y sh hy hs=>?_⟩;obtain⟨c0,c1⟩:=hcell i x hx;obtain⟨n1,i1⟩:=h3 i x hx;match j,hy,hs with
 | 0,hy,hs=>cases hy;cases hs;exact⟨_,c0,.s _ n1⟩
 | 1,hy,hs=>cases hy;cases hs;exact⟨_,c1,its_row i1⟩
 | j+2,hy,_=>simp [Bk.lf] at hy
theorem KA.cv {N:Nat} {w:World} {pf:Option Addr} {cf:Nat} {pb:Option Addr} {cb:Nat} {k:Kl} (h:KA N w pf cf pb cb k):CV (Lo N) w pf cf pb cb (clOf k) :=
 ⟨h.nm,h.par,h.fs,by have:=bks_row h.bs;show At (Lo N) w (.r .blocks) (.slice pb (k.bs.map bkOf).length cb) _;rw [List.length_map];exact this⟩
end CtW
namespace CtW
open Go Go.RowKit Go.Shelf NumM LexW ExW ItW LexM ExM EtM EtW ItM CtM
open ClM (Fld fieldE)
theorem nm16 {s:ByteArray} (h:nmB (nmT s)=true):s.size≤16:=by
 have:=(nm_parts h).2.2.2;unfold nmT at this;rw [len_data] at this;exact this
theorem mdW_le (m:Int):(mb (mdW m)).size≤5:=by
 show (mdW m).length≤5;unfold mdW;split
 ·decide
 ·split<;>decide
theorem fieldText_any (f:Fld) (h:fieldE f=0) (w:World) (ht:Pow w) :
  Calls Tryz.prog 62 #[.agg #[.string f.nm,.int .i64 f.wd,.int .i64 f.sz,.int .i64 f.md,.int .i64 f.ini]] w (tS (fldL f) w):=by
 obtain⟨a1,a2,a3,a4,a5,a6⟩:=fld_ok h;have hi:f.ini≤255:=by
  unfold fieldE at h;split at h
  ·cases h
  ·split at h
   ·rename_i ho;unfold ClM.okF at ho;simp only [decide_eq_true_eq] at ho;obtain⟨h1,h2,h3,h4,h5,h6,_,h7,h8⟩:=ho;unfold ClM.maxI at h8;split at h8
    ·have h9:f.wd.toNat≤8:=(by omega);have h10:(2:Int) ^ f.wd.toNat≤2 ^ 8:=by
      have:=Nat.pow_le_pow_right (show 0<2 by decide) h9
      exact_mod_cast this
     omega
    ·omega
   ·cases h
 have hn:=nm16 a1;obtain⟨nm,wd,sz,md,ini⟩:=f;simp only at a1 a2 a3 a4 a5 a6 hi hn ⊢;have EE:Hid (fldL ⟨nm,wd,sz,md,ini⟩=mdW md++32::(nmT nm++((if 0<sz then 91::(Lib.itoa sz++[93]) else [])++32::58::32::(Lib.itoa wd++((if md=0 then 32::61::32::Lib.itoa ini else [])++[59]))))):=Lh rfl;rw [EE.out];clear EE h;have l2:=ba w (.cells #[.string nm,.int .i64 wd,.int .i64 sz,.int .i64 md,.int .i64 ini] 55);have F1:Blk (w.alloc (.cells #[.string nm,.int .i64 wd,.int .i64 sz,.int .i64 md,.int .i64 ini] 55)) w.heap.size [.string nm,.int .i64 wd,.int .i64 sz,.int .i64 md,.int .i64 ini]:=Blk.new w _ _;have MC:Hid (∀ W,Calls Tryz.prog 95 #[.int .i64 md] W fun e w'=>e=.returned (.string (mb (mdW md)))∧w'=W):=(Lh fun W=>(modeText_any md W).mono fun _ _ h=>⟨h.1,h.2.symm⟩);have FW:Hid (∀ W,Below w.heap.size w W→Calls Tryz.prog 40 #[.int .i64 wd] W (tS (Lib.itoa wd) W)):=(Lh fun W hW=>fmt_any wd W ⟨by omega,by omega⟩ (pow_later ht hW));have FS:Hid (∀ W,Below w.heap.size w W→Calls Tryz.prog 40 #[.int .i64 sz] W (tS (Lib.itoa sz) W)):=(Lh fun W hW=>fmt_any sz W ⟨by omega,by omega⟩ (pow_later ht hW));have FI:Hid (∀ W,Below w.heap.size w W→Calls Tryz.prog 40 #[.int .i64 ini] W (tS (Lib.itoa ini) W)):=(Lh fun W hW=>fmt_any ini W ⟨by omega,by omega⟩ (pow_later ht hW));have z1:(Lib.itoa wd).length≤21:=itoa_le ⟨by omega,by omega⟩;have z2:(Lib.itoa sz).length≤21:=itoa_le ⟨by omega,by omega⟩;have z3:(Lib.itoa ini).length≤21:=itoa_le ⟨by omega,by omega⟩;have z4:=mdW_le md;obtain⟨D,hD⟩:∃ x,Lib.itoa wd=x:=⟨_,rfl⟩;obtain⟨Z,hZ⟩:∃ x,Lib.itoa sz=x:=⟨_,rfl⟩;obtain⟨Q,hQ⟩:∃ x,Lib.itoa ini=x:=⟨_,rfl⟩;obtain⟨M,hM⟩:∃ x,mdW md=x:=⟨_,rfl⟩;rw [hD] at FW z1 ⊢;rw [hZ] at FS z2 ⊢;rw [hQ] at FI z3 ⊢;rw [hM] at MC z4 ⊢;have y1:(mb D).size≤21:=z1;have y2:(mb Z).size≤21:=z2;have y3:(mb Q).size≤21:=z3;have n1:¬ 9223372036854775807<M.length+1:=(by have:M.length≤5:=z4;omega);have n2:¬ 9223372036854775807<M.length+1+nm.size:=(by have:M.length≤5:=z4;omega);have n3:¬ 9223372036854775807<(mb M).size+1:=(by omega);have n4:¬ 9223372036854775807<(mb M).size+1+nm.size:=(by omega);obtain⟨W0,hW0⟩:∃ W0,w.alloc (.cells #[.string nm,.int .i64 wd,.int .i64 sz,.int .i64 md,.int .i64 ini] 55)=W0:=⟨_,rfl⟩;rw [hW0] at F1 l2;have HB:=Lh l2;have HF:=Lh F1;have HD:Hid (∀ n,Below W0.heap.size W0 (W0.drewN n)):=(Lh fun n=>drewB (Below.refl _ _));have HLT:=F1.lt;have c0:=F1.c 0 _ rfl;have c1:=F1.c 1 _ rfl;have c2:=F1.c 2 _ rfl;have c3:=F1.c 3 _ rfl;have c4:=F1.c 4 _ rfl;have z4':M.length≤5:=z4;clear hD hZ hQ hM F1 l2 ht y1 y2 y3 a1 a4 a6;by_cases hs:0<sz
 ·rw [if_pos hs];have q1:decide (0<sz)=true:=decide_eq_true hs;by_cases hm:md=0
  ·subst hm;rw [if_pos rfl]
   go_enter Tryz.func62,Tryz.ntmps62
   go_wp2;go_quiet ((go_at_call 95;exact Calls.quiet_of_same (MC.out _)))
   go_wp2_with (first | (go_at_call 40;((with_reducible refine (FS.out _ (HB.out.then_ (HD.out _))).mono ?_);rintro e w2 ⟨rfl,hb⟩;have HX:=Lh ((HD.out _).then_ hb);(try clear c0 c1 c2 c3 c4);have F:=HF.out.stay HX.out;have c0:=F.c 0 _ rfl;have c1:=F.c 1 _ rfl;have c2:=F.c 2 _ rfl;have c3:=F.c 3 _ rfl;have c4:=F.c 4 _ rfl;clear F;clear hb)) | (go_at_call 40;((with_reducible refine (FW.out _ (HB.out.then_ HX.out)).mono ?_);rintro e w2 ⟨rfl,hb⟩;have HX:=Lh (HX.out.then_ hb);(try clear c0 c1 c2 c3 c4);have F:=HF.out.stay HX.out;have c0:=F.c 0 _ rfl;have c1:=F.c 1 _ rfl;have c2:=F.c 2 _ rfl;have c3:=F.c 3 _ rfl;have c4:=F.c 4 _ rfl;clear F;clear hb)) | (go_at_call 40;((with_reducible refine (FI.out _ (HB.out.then_ HX.out)).mono ?_);rintro e w2 ⟨rfl,hb⟩;have HX:=Lh (HX.out.then_ hb);(try clear c0 c1 c2 c3 c4);have F:=HF.out.stay HX.out;have c0:=F.c 0 _ rfl;have c1:=F.c 1 _ rfl;have c2:=F.c 2 _ rfl;have c3:=F.c 3 _ rfl;have c4:=F.c 4 _ rfl;clear F;clear hb)))
   go_ret;exact tS_mk (by simp [ByteArray.data_append,nmT]) (HB.out.then_ HX.out)
  ·rw [if_neg hm];have q2:(md == 0)=false:=(by simpa using hm);clear hm
   go_enter Tryz.func62,Tryz.ntmps62
   go_wp2;go_quiet ((go_at_call 95;exact Calls.quiet_of_same (MC.out _)))
   go_wp2_with (first | (go_at_call 40;((with_reducible refine (FS.out _ (HB.out.then_ (HD.out _))).mono ?_);rintro e w2 ⟨rfl,hb⟩;have HX:=Lh ((HD.out _).then_ hb);(try clear c0 c1 c2 c3 c4);have F:=HF.out.stay HX.out;have c0:=F.c 0 _ rfl;have c1:=F.c 1 _ rfl;have c2:=F.c 2 _ rfl;have c3:=F.c 3 _ rfl;have c4:=F.c 4 _ rfl;clear F;clear hb)) | (go_at_call 40;((with_reducible refine (FW.out _ (HB.out.then_ HX.out)).mono ?_);rintro e w2 ⟨rfl,hb⟩;have HX:=Lh (HX.out.then_ hb);(try clear c0 c1 c2 c3 c4);have F:=HF.out.stay HX.out;have c0:=F.c 0 _ rfl;have c1:=F.c 1 _ rfl;have c2:=F.c 2 _ rfl;have c3:=F.c 3 _ rfl;have c4:=F.c 4 _ rfl;clear F;clear hb)))
   go_ret;exact tS_mk (by simp [ByteArray.data_append,nmT]) (HB.out.then_ HX.out)
 ·rw [if_neg hs];have q1:decide (0<sz)=false:=decide_eq_false hs;by_cases hm:md=0
  ·subst hm;rw [if_pos rfl]
   go_enter Tryz.func62,Tryz.ntmps62
   go_wp2;go_quiet ((go_at_call 95;exact Calls.quiet_of_same (MC.out _)))
   go_wp2_with (first | (go_at_call 40;((with_reducible refine (FW.out _ (HB.out.then_ (HD.out _))).mono ?_);rintro e w2 ⟨rfl,hb⟩;have HX:=Lh ((HD.out _).then_ hb);(try clear c0 c1 c2 c3 c4);have F:=HF.out.stay HX.out;have c0:=F.c 0 _ rfl;have c1:=F.c 1 _ rfl;have c2:=F.c 2 _ rfl;have c3:=F.c 3 _ rfl;have c4:=F.c 4 _ rfl;clear F;clear hb)) | (go_at_call 40;((with_reducible refine (FI.out _ (HB.out.then_ HX.out)).mono ?_);rintro e w2 ⟨rfl,hb⟩;have HX:=Lh (HX.out.then_ hb);(try clear c0 c1 c2 c3 c4);have F:=HF.out.stay HX.out;have c0:=F.c 0 _ rfl;have c1:=F.c 1 _ rfl;have c2:=F.c 2 _ rfl;have c3:=F.c 3 _ rfl;have c4:=F.c 4 _ rfl;clear F;clear hb)))
   go_ret;exact tS_mk (by simp [ByteArray.data_append,nmT]) (HB.out.then_ HX.out)
  ·rw [if_neg hm];have q2:(md == 0)=false:=(by simpa using hm);clear hm
   go_enter Tryz.func62,Tryz.ntmps62
   go_wp2;go_quiet ((go_at_call 95;exact Calls.quiet_of_same (MC.out _)))
   go_wp2_with (first | (go_at_call 40;((with_reducible refine (FW.out _ (HB.out.then_ (HD.out _))).mono ?_);rintro e w2 ⟨rfl,hb⟩;have HX:=Lh ((HD.out _).then_ hb);(try clear c0 c1 c2 c3 c4);have F:=HF.out.stay HX.out;have c0:=F.c 0 _ rfl;have c1:=F.c 1 _ rfl;have c2:=F.c 2 _ rfl;have c3:=F.c 3 _ rfl;have c4:=F.c 4 _ rfl;clear F;clear hb)))
   go_ret;exact tS_mk (by simp [ByteArray.data_append,nmT]) (HB.out.then_ HX.out)
end CtW
end Go.Proofs.YtihnejaopejbgaaGreatDoor
