/-
  Laws that the card uses; no conditions beside those that each states (ExMem ExNameR ExName ExAr).
-/
import Derived.RangeFuncNested
import Derived.Deep.OwnRows
import Derived.Deep.RegionHeld3
import Derived.Test.YtihnejaopejbgaaGreatDoorP08
set_option maxRecDepth 100000
set_option maxHeartbeats 16000000
namespace Go.Proofs.YtihnejaopejbgaaGreatDoor
namespace ExW
open Go Go.RowKit LexW LexM ExM
abbrev xv (o n:Int) (s:ByteArray) (a:Value):Value:=.agg #[.int .i64 o,.int .i64 n,.string s,a]
inductive ExAt (N:Nat) (w:World):Value→Ex→Prop where
 | mk {o n:Int} {s:ByteArray} {ks:List Ex} {p:Option Addr} {cap:Nat} (pl:Nat→Option Addr) (cl:Nat→Nat)
   (hs:s.size≤140737488351232) (hl:ks.length*56≤140737488351232) (hc:ks.length≤cap)
   (hp:0<ks.length→∃ b off,p=some ⟨b,off,none⟩∧b<N∧∀ i a,ks[i]? = some a →
    w.cell? ⟨b,off+i*4,none⟩=some (.int .i64 a.op)∧w.cell? ⟨b,off+i*4+1,none⟩=some (.int .i64 a.n)∧w.cell? ⟨b,off+i*4+2,none⟩=some (.string a.nm)∧w.cell? ⟨b,off+i*4+3,none⟩=some (.slice (pl i) a.args.length (cl i)))
   (hx:∀ i a,ks[i]? = some a→ExAt N w (xv a.op a.n a.nm (.slice (pl i) a.args.length (cl i))) a) :
   ExAt N w (xv o n s (.slice p ks.length cap)) (.mk o n s ks)
structure ArgsAt (N:Nat) (w:World) (p:Option Addr) (cap:Nat) (pl:Nat→Option Addr) (cl:Nat→Nat) (ks:List Ex):Prop where
 hl:ks.length*56≤140737488351232
 hc:ks.length≤cap
 hp:0<ks.length→∃ b off,p=some ⟨b,off,none⟩∧b<N∧∀ i a,ks[i]? = some a →
    w.cell? ⟨b,off+i*4,none⟩=some (.int .i64 a.op)∧w.cell? ⟨b,off+i*4+1,none⟩=some (.int .i64 a.n)∧w.cell? ⟨b,off+i*4+2,none⟩=some (.string a.nm)∧w.cell? ⟨b,off+i*4+3,none⟩=some (.slice (pl i) a.args.length (cl i))
 hx:∀ i a,ks[i]? = some a→ExAt N w (xv a.op a.n a.nm (.slice (pl i) a.args.length (cl i))) a
theorem ExAt.form {N:Nat} {w:World} {v:Value} {e:Ex} (h:ExAt N w v e):∃ p cap pl cl,v=xv e.op e.n e.nm (.slice p e.args.length cap)∧e.nm.size≤140737488351232∧ArgsAt N w p cap pl cl e.args:=by
 cases h with
 | mk pl cl hs hl hc hp hx=>exact⟨_,_,pl,cl,rfl,hs,hl,hc,hp,hx⟩
theorem ExAt.of {N:Nat} {w:World} {o n:Int} {s:ByteArray} {p:Option Addr} {cap:Nat} {pl:Nat→Option Addr} {cl:Nat→Nat} {ks:List Ex} (hs:s.size≤140737488351232) (h:ArgsAt N w p cap pl cl ks):ExAt N w (xv o n s (.slice p ks.length cap)) (.mk o n s ks) :=
 .mk pl cl hs h.hl h.hc h.hp h.hx
theorem ExAt.kept {N N':Nat} {w w':World} (hk:∀ b o,b<N→∀ v,w.cell? ⟨b,o,none⟩=some v→w'.cell? ⟨b,o,none⟩=some v) (hN:N≤N') {v:Value} {e:Ex} (h:ExAt N w v e):ExAt N' w' v e:=by
 induction h with
 | mk pl cl hs hl hc hp hx ih =>
  refine .mk pl cl hs hl hc (fun h0=>?_) (fun i a hi=>ih i a hi);obtain⟨b,off,e,hb,hcell⟩:=hp h0;exact⟨b,off,e,Nat.lt_of_lt_of_le hb hN,fun i a hi=>⟨hk _ _ hb _ (hcell i a hi).1,hk _ _ hb _ (hcell i a hi).2.1,hk _ _ hb _ (hcell i a hi).2.2.1,hk _ _ hb _ (hcell i a hi).2.2.2⟩⟩
theorem ExAt.under {N:Nat} {w w':World} (hb:Below N w w') {v:Value} {e:Ex} (h:ExAt N w v e):ExAt N w' v e :=
 h.kept (fun b o hlt _ hv=>(hb.cell (p:=⟨b,o,none⟩) hlt).trans hv) (Nat.le_refl _)
theorem ExAt.later {w w':World} (hb:Below w.heap.size w w') {v:Value} {e:Ex} (h:ExAt w.heap.size w v e):ExAt w'.heap.size w' v e :=
 h.kept (fun b o hlt _ hv=>(hb.cell (p:=⟨b,o,none⟩) hlt).trans hv) hb.size
theorem ExAt.wide {N N':Nat} {w:World} (hN:N≤N') {v:Value} {e:Ex} (h:ExAt N w v e):ExAt N' w v e:=h.kept (fun _ _ _ _ hv=>hv) hN
theorem ArgsAt.kept {N N':Nat} {w w':World} (hk:∀ b o,b<N→∀ v,w.cell? ⟨b,o,none⟩=some v→w'.cell? ⟨b,o,none⟩=some v) (hN:N≤N') {p:Option Addr} {cap:Nat} {pl:Nat→Option Addr} {cl:Nat→Nat} {ks:List Ex} (h:ArgsAt N w p cap pl cl ks):ArgsAt N' w' p cap pl cl ks:=by
 refine⟨h.hl,h.hc,fun h0=>?_,fun i a hi=>(h.hx i a hi).kept hk hN⟩;obtain⟨b,off,e,hb,hcell⟩:=h.hp h0;exact⟨b,off,e,Nat.lt_of_lt_of_le hb hN,fun i a hi=>⟨hk _ _ hb _ (hcell i a hi).1,hk _ _ hb _ (hcell i a hi).2.1,hk _ _ hb _ (hcell i a hi).2.2.1,hk _ _ hb _ (hcell i a hi).2.2.2⟩⟩
theorem ArgsAt.under {N:Nat} {w w':World} (hb:Below N w w') {p:Option Addr} {cap:Nat} {pl:Nat→Option Addr} {cl:Nat→Nat} {ks:List Ex} (h:ArgsAt N w p cap pl cl ks):ArgsAt N w' p cap pl cl ks :=
 h.kept (fun b o hlt _ hv=>(hb.cell (p:=⟨b,o,none⟩) hlt).trans hv) (Nat.le_refl _)
theorem ArgsAt.later {w w':World} (hb:Below w.heap.size w w') {p:Option Addr} {cap:Nat} {pl:Nat→Option Addr} {cl:Nat→Nat} {ks:List Ex} (h:ArgsAt w.heap.size w p cap pl cl ks):ArgsAt w'.heap.size w' p cap pl cl ks :=
 h.kept (fun b o hlt _ hv=>(hb.cell (p:=⟨b,o,none⟩) hlt).trans hv) hb.size
theorem ArgsAt.nil (N:Nat) (w:World) (p:Option Addr) (cap:Nat):ArgsAt N w p cap (fun _=>none) (fun _=>0) [] :=
 ⟨by simp,by simp,fun h=>by simp at h,fun i a hi=>by simp at hi⟩
theorem grown_of_below {w w':World} (h:Below w.heap.size w w'):w.grownBy w' none:=⟨h.os,h.tape,h.output,h.size,fun k hk _=>h.block k hk⟩
structure Nd where
 lv:Nat
 op:Int
 n:Int
 nm:ByteArray
 p:Option Addr
 k:Nat
 cap:Nat
 hl:lv≤9000000
 hs:nm.size≤140737488351232
 hk:k≤140737488351232
def Nd.info (x:Nd):In:=⟨x.lv,x.op,x.n,x.nm,x.k⟩
abbrev Nd.enc (x:Nd):Array Value:=#[.int .i64 x.lv,xv x.op x.n x.nm (.slice x.p x.k x.cap)]
structure Keep (n₀ n₁:Nat) (W W':World):Prop where
 size:W.heap.size≤W'.heap.size
 blk:∀ b cs t fr,W.heap[b]? = some (.cells cs t fr)→(b<n₀∨(n₁≤b∧(t=51∨t=149)))→W'.heap[b]? = some (.cells cs t fr)
theorem Keep.refl (n₀ n₁:Nat) (W:World):Keep n₀ n₁ W W:=⟨Nat.le_refl _,fun _ _ _ _ h _=>h⟩
theorem Keep.trans {n₀ n₁:Nat} {A B C:World} (h:Keep n₀ n₁ A B) (k:Keep n₀ n₁ B C):Keep n₀ n₁ A C :=
 ⟨Nat.le_trans h.size k.size,fun b cs t fr hv hb=>k.blk b cs t fr (h.blk b cs t fr hv hb) hb⟩
theorem cell_lt {w:World} {b o:Nat} {v:Value} (h:w.cell? ⟨b,o,none⟩=some v):b<w.heap.size:=by
 rcases Nat.lt_or_ge b w.heap.size with g | g
 ·exact g
 ·simp only [World.cell?,Array.getElem?_eq_none g] at h;cases h
theorem cell_cells {w:World} {b o:Nat} {v:Value} (h:w.cell? ⟨b,o,none⟩=some v):∃ cs t fr,w.heap[b]? = some (.cells cs t fr):=by
 have hb:=cell_lt h;simp only [World.cell?,Array.getElem?_eq_getElem hb] at h ⊢;cases hx:w.heap[b] with
 | cells cs t fr=>exact⟨cs,t,fr,rfl⟩
 | _=>simp_all
theorem Keep.tree {n₀ n₁:Nat} {W W':World} (h:Keep n₀ n₁ W W') {b o:Nat} {v:Value} (hb:b<n₀) (hv:W.cell? ⟨b,o,none⟩=some v):W'.cell? ⟨b,o,none⟩=some v:=by
 obtain⟨cs,t,fr,hc⟩:=cell_cells hv;exact (World.cell?_of_block (w:=W) (by rw [h.blk b cs t fr hc (.inl hb),hc])).trans hv
theorem Keep.of_below {n₀ n₁:Nat} {W W':World} (h:Below W.heap.size W W'):Keep n₀ n₁ W W' :=
 ⟨h.size,fun b _ _ _ hv _=>(h.block b (Array.getElem?_eq_some_iff.1 hv).1).trans hv⟩
theorem Keep.grown {n₀ n₁:Nat} {W W':World} {row:Option Nat} (h:W.grownBy W' row) (hr:∀ b,row=some b→∀ cs t fr,W.heap[b]? = some (.cells cs t fr)→n₀≤b∧(b<n₁∨(t≠51∧t≠149))):Keep n₀ n₁ W W':=by
 refine⟨h.size,fun b cs t fr hv hb=>?_⟩;by_cases e:some b=row
 ·obtain⟨h1,h2⟩:=hr b e.symm cs t fr hv;rcases hb with hb | ⟨hb,rfl | rfl⟩
  ·omega
  ·rcases h2 with h2 | h2
   ·omega
   ·exact absurd rfl h2.1
  ·rcases h2 with h2 | h2
   ·omega
   ·exact absurd rfl h2.2
 ·exact (h.block b (Array.getElem?_eq_some_iff.1 hv).1 e).trans hv
theorem Keep.set {n₀ n₁:Nat} {W W':World} (h:Keep n₀ n₁ W W') {b:Nat} (h0:n₀≤b) (h1:b<n₁) (v:Value):Keep n₀ n₁ W (W'.setCell ⟨b,0,none⟩ v) :=
 h.trans (Keep.grown (grownBy_setCell' W' b v) fun b' e _ _ _ _=>by cases e;exact⟨h0,.inl h1⟩)
theorem Keep.putObj {n₀ n₁:Nat} (W:World) (l:Nat) (o o':Obj) (h:W.heap[l]? = some o) (hc:o.isCells=false):Keep n₀ n₁ W (W.putObj l o') :=
 Keep.grown (grownBy_putObj' W l o') fun b e cs t fr hb=>by
  cases e;rw [h] at hb;cases hb;cases hc
theorem ExAt.keep {n₀ n₁:Nat} {W W':World} (h:Keep n₀ n₁ W W') {v:Value} {e:Ex} (hx:ExAt n₀ W v e):ExAt n₀ W' v e :=
 hx.kept (fun _ _ hb _ hv=>h.tree hb hv) (Nat.le_refl _)
theorem ArgsAt.keep {n₀ n₁:Nat} {W W':World} (h:Keep n₀ n₁ W W') {p:Option Addr} {cap:Nat} {pl:Nat→Option Addr} {cl:Nat→Nat} {ks:List Ex} (hx:ArgsAt n₀ W p cap pl cl ks):ArgsAt n₀ W' p cap pl cl ks :=
 hx.kept (fun _ _ hb _ hv=>h.tree hb hv) (Nat.le_refl _)
end ExW
namespace LexW
open Go Go.RowKit NumM LexM
def tBool (b:Bool) (w:World) (e:Ending) (w':World):Prop:=e=.returned (.bool b)∧Below w.heap.size w w'
theorem tBool_mk {a b:Bool} {w w':World} (h:a=b) (hb:Below w.heap.size w w'):tBool b w (.returned (.bool a)) w':=by subst h;exact⟨rfl,hb⟩
end LexW
namespace ExW
open Go Go.RowKit NumM LexW LexM ExM
theorem nm_wrd {l:List UInt8} (h:nmB l=true):∀ c∈l,wrd c=true:=by
 cases l with
 | nil=>simp
 | cons a r =>
  unfold nmB at h;simp only [Bool.and_eq_true] at h;exact List.all_eq_true.1 h.2.2.2
theorem nm_no {l:List UInt8} (h:nmB l=true):(91:UInt8) ∉ l:=fun hm=>by
 have:=nm_wrd h _ hm
 revert this;decide
def idxB (l:List UInt8):Bool:=match l with | [d,c]=>decide (48≤d.toNat∧d.toNat≤55)&&decide (c=93) | _=>false
theorem idx_iff {l:List UInt8}:idxB l=true↔∃ d:UInt8,l=[d,93]∧(48≤d.toNat∧d.toNat≤55):=by
 unfold idxB;split
 ·rename_i d c;simp only [Bool.and_eq_true,decide_eq_true_eq];constructor
  ·rintro ⟨a,rfl⟩;exact⟨d,rfl,a⟩
  ·rintro ⟨d',h,a⟩;have h1:d=d':=(by simpa using congrArg (fun l=>l.head?) h);have h2:c=93:=(by simpa using congrArg (fun l=>l.tail.head?) h);exact⟨by rw [h1];exact a,h2⟩
 ·rename_i hn;simp only [Bool.false_eq_true,false_iff];rintro ⟨d,rfl,_⟩;exact hn d 93 rfl
theorem elm_iff {l:List UInt8}:elmB l=true↔∃ r d,l=r++91::[d,93]∧(48≤d.toNat∧d.toNat≤55)∧nmB r=true:=by
 unfold elmB;split
 ·rename_i c d b r hr;have hl:l=r.reverse++[b,d,c]:=(by rw [←List.reverse_reverse l,hr];simp);simp only [Bool.and_eq_true,decide_eq_true_eq];constructor
  ·rintro ⟨rfl,rfl,a,n⟩;exact⟨r.reverse,d,hl,a,n⟩
  ·rintro ⟨r',d',h,a,n⟩;rw [hl] at h;have hlen:r.reverse.length=r'.length:=(by have:=congrArg List.length h;simp at this;simpa using this);obtain⟨h1,h2⟩:=List.append_inj h hlen;have e1:b=91:=(by simpa using congrArg (fun l=>l.head?) h2);have e2:d=d':=(by simpa using congrArg (fun l=>l.tail.head?) h2);have e3:c=93:=(by simpa using congrArg (fun l=>l.tail.tail.head?) h2);exact⟨e3,e1,by rw [e2];exact a,by rw [h1];exact n⟩
 ·rename_i hn;simp only [Bool.false_eq_true,false_iff];rintro ⟨r,d,rfl,_⟩;exact hn 93 d 91 r.reverse (by simp)
theorem var_none {l:List UInt8} (h:(91:UInt8) ∉ l):varB l=nmB l:=by
 unfold varB;have:elmB l=false:=by
  rw [Bool.eq_false_iff];intro e;obtain⟨r,d,rfl,_⟩:=elm_iff.1 e;exact h (by simp)
 rw [this];rfl
theorem split_at {a b c d:List UInt8} (h:a++91::b=c++91::d) (ha:(91:UInt8) ∉ a) (hc:(91:UInt8) ∉ c):a=c∧b=d:=by
 induction a generalizing c with
 | nil =>
  cases c with
  | nil=>simpa using h
  | cons x r =>
   have:(91:UInt8)=x:=(by simpa using congrArg (fun l=>l.head?) h);exact absurd (by rw [this];simp) hc
 | cons y q ih =>
  cases c with
  | nil =>
   have:y=(91:UInt8):=(by simpa using congrArg (fun l=>l.head?) h);exact absurd (by rw [this];simp) ha
  | cons x r =>
   simp only [List.cons_append,List.cons.injEq] at h;obtain⟨h1,h2⟩:=ih h.2 (fun m=>ha (by simp [m])) (fun m=>hc (by simp [m]));exact⟨by rw [h.1,h1],h2⟩
theorem var_some {a b:List UInt8} (h:(91:UInt8) ∉ a):varB (a++91::b)=(nmB a&&idxB b):=by
 unfold varB;have h0:nmB (a++91::b)=false:=by
  rw [Bool.eq_false_iff];intro e;exact nm_no e (by simp)
 rw [h0,Bool.or_false,Bool.eq_iff_iff,elm_iff,Bool.and_eq_true,idx_iff];constructor
 ·rintro ⟨r,d,e,hd,n⟩;obtain⟨e1,e2⟩:=split_at e h (nm_no n);exact⟨by rw [e1];exact n,d,e2,hd⟩
 ·rintro ⟨n,d,rfl,hd⟩;exact⟨a,d,rfl,hd,n⟩
theorem ext_list (s:ByteArray) (a e:Nat):(s.extract a e).data.toList=(s.data.toList.drop a).take (e - a):=by
 simp [ByteArray.data_extract,Array.toList_extract]
def cutB (s t b:ByteArray) (f:Bool):Prop:=t.size≤s.size∧b.size≤s.size∧(91:UInt8) ∉ t.data.toList∧((f=true∧s.data.toList=t.data.toList++91::b.data.toList)∨(f=false∧t.data.toList=s.data.toList))
theorem cutLite (s:ByteArray) (hs:s.size≤140737488351232) :
  ∃ t b f,cutB s t b f∧∀ w,Calls Tryz.prog 174 #[.string s,.string ⟨#[91]⟩] w fun e w'=>e=.returned (.tuple #[.string t,.string b,.bool f])∧Below w.heap.size w w':=by
 have IX:=(fun w=>Tryz.stringslite_Index_one s 91 w);have hge:=Lib.indexByte_ge s.data.toList 91;have hlen:s.data.toList.length=s.size:=(by simp);by_cases h:Lib.indexByte s.data.toList 91 = -1
 ·have e:=(fun j=>Lib.indexByte_none h j);rw [h] at IX;have IX:=Lh IX;have P:Hid (cutB s s ⟨#[]⟩ false):=Lh ⟨Nat.le_refl _,Nat.zero_le _,fun hm=>by
   obtain⟨j,hj,he⟩:=List.mem_iff_getElem.1 hm;exact e j (by rw [List.getElem?_eq_getElem hj,he]),.inr ⟨rfl,rfl⟩⟩
  clear h hge e hlen;refine⟨_,_,_,P.out,fun w=>?_⟩
  go_enter Tryz.func174,Tryz.ntmps174
  go_wp2_with (go_at_call 186;((with_reducible refine (IX.out _).mono ?_);rintro e w' ⟨rfl,rfl⟩))
  refine bodyPost_ret (v:=.tuple #[.string s,.string ⟨#[]⟩,.bool false]) (by simp [results,Tryz.results174,go_sem]) rfl ?_;exact⟨rfl,Below.refl _ _⟩
 ·obtain⟨k,hk⟩:∃ k:Nat,Lib.indexByte s.data.toList 91=(k:Int):=⟨(Lib.indexByte s.data.toList 91).toNat,by omega⟩;obtain⟨h1,h2⟩:=Lib.indexByte_some hk;have hlt:k<s.data.toList.length:=by
   apply Nat.lt_of_not_le;intro g;rw [List.getElem?_eq_none g] at h1;cases h1
  rw [hk] at IX;have IX:=Lh IX;have P:Hid (cutB s (s.extract 0 k) (s.extract (k+1) s.size) true):=Lh (by
   have q1:(s.extract 0 k).data.toList=s.data.toList.take k:=(by rw [ext_list];simp);have q2:(s.extract (k+1) s.size).data.toList=s.data.toList.drop (k+1):=by
    rw [ext_list,List.take_of_length_le (by rw [List.length_drop];omega)]
   have z1:=congrArg List.length q1;have z2:=congrArg List.length q2;rw [len_data,List.length_take,len_data] at z1;rw [len_data,List.length_drop,len_data] at z2;refine⟨by omega,by omega,?_,.inl ⟨rfl,?_⟩⟩
   ·rw [q1];intro hm;obtain⟨j,hj,he⟩:=List.mem_iff_getElem.1 hm;rw [List.length_take] at hj;rw [List.getElem_take] at he;exact h2 j (by omega) (by rw [List.getElem?_eq_getElem (by omega),he])
   ·rw [q1,q2];have:=List.take_append_drop k s.data.toList;have hd:s.data.toList.drop k=91::s.data.toList.drop (k+1):=by
     rw [List.drop_eq_getElem_cons hlt];have:s.data.toList[k]=91:=(by rw [List.getElem?_eq_getElem hlt] at h1;simpa using h1);rw [this]
    rw [←hd];exact this.symm)
  rw [hlen] at hlt;have b1:(0:Int)≤(k:Int):=(by omega);have b2:(k:Int)≤(s.size:Int):=(by omega);have b3:(k:Int)+1≤(s.size:Int):=(by omega);have b4:IntKind.i64.wrap ((k:Int)+1)=(k:Int)+1:=(by rw [IntKind.wrap_i64];omega);have b5:((k:Int)+1).toNat=k+1:=(by omega);clear h hge hlen hk h1 h2;refine⟨_,_,_,P.out,fun w=>?_⟩
  go_enter Tryz.func174,Tryz.ntmps174
  go_wp2_with (go_at_call 186;((with_reducible refine (IX.out _).mono ?_);rintro e w' ⟨rfl,rfl⟩))
  go_region
  all_goals
   go_wp2;refine bodyPost_ret (v:=.tuple #[.string (s.extract 0 k),.string (s.extract (k+1) s.size),.bool true]) (by simp [results,Tryz.results174,go_sem]) rfl ?_;exact⟨rfl,by first | exact Below.refl _ _ | exact (Below.refl _ _).drew⟩
theorem cutCode (s:ByteArray) (hs:s.size≤140737488351232) :
  ∃ t b f,cutB s t b f∧∀ w,Calls Tryz.prog 159 #[.string s,.string ⟨#[91]⟩] w fun e w'=>e=.returned (.tuple #[.string t,.string b,.bool f])∧Below w.heap.size w w':=by
 obtain⟨t,b,f,P,C⟩:=cutLite s hs;refine⟨t,b,f,P,fun w=>?_⟩;have C:=Lh C;clear hs P
 go_enter Tryz.func159,Tryz.ntmps159
 go_wp2_with (go_at_call 174;((with_reducible refine (C.out _).mono ?_);rintro e w1 ⟨rfl,hb⟩;have HB:=Lh hb;clear hb))
 refine bodyPost_ret (v:=.tuple #[.string t,.string b,.bool f]) (by simp [results,Tryz.results159,go_sem]) rfl ?_;exact⟨rfl,HB.out⟩
theorem two_bytes {s:ByteArray} (h:s.size=2):s.data.toList=[s[0],s[1]]:=by
 apply List.ext_getElem
 ·have:=len_data s;simp only [List.length_cons,List.length_nil];omega
 ·intro i h1 h2;simp only [List.length_cons,List.length_nil] at h2;match i,h2 with
  | 0,_=>rfl
  | 1,_=>rfl
theorem isIndex_any (s:ByteArray) (w:World):Calls Tryz.prog 160 #[.string s] w fun e w'=>e=.returned (.bool (idxB s.data.toList))∧w=w':=by
 by_cases h:s.size=2
 ·have e2:=two_bytes h;have h0:0<s.size:=(by omega);have h1:1<s.size:=(by omega);by_cases g1:48≤(s[0].toNat:Int)
  ·by_cases g2:(s[0].toNat:Int)<56
   ·by_cases g3:(s[1].toNat:Int)=93
    ·have EE:Hid (true=idxB s.data.toList):=Lh (by
      rw [e2,eq_comm,idx_iff];refine⟨s[0],?_,by omega,by omega⟩;have:s[1]=93:=UInt8.toNat_inj.1 (by show s[1].toNat=93;omega);rw [this])
     clear e2
     go_enter Tryz.func160,Tryz.ntmps160
     go_wp2;go_ret;exact⟨retb EE.out,rfl⟩
    ·have EE:Hid (false=idxB s.data.toList):=Lh (by
      rw [e2];have:(s[1]=93)↔False:=⟨fun x=>(by rw [x] at g3;exact g3 rfl),False.elim⟩;simp [idxB,this])
     have g4:((s[1].toNat:Int) == 93)=false:=(by rw [beq_eq_false_iff_ne];exact g3);clear e2 g3
     go_enter Tryz.func160,Tryz.ntmps160
     go_wp2;go_ret;exact⟨retb EE.out,rfl⟩
   ·have EE:Hid (false=idxB s.data.toList):=Lh (by rw [e2];simp [idxB];intros;omega);clear e2
    go_enter Tryz.func160,Tryz.ntmps160
    go_wp2;go_ret;exact⟨retb EE.out,rfl⟩
  ·have EE:Hid (false=idxB s.data.toList):=Lh (by rw [e2];simp [idxB];intros;omega);clear e2
   go_enter Tryz.func160,Tryz.ntmps160
   go_wp2;go_ret;exact⟨retb EE.out,rfl⟩
 ·have EE:Hid (false=idxB s.data.toList):=Lh (by
   rw [eq_comm,Bool.eq_false_iff];intro e;obtain⟨d,hd,_⟩:=idx_iff.1 e;have:=len_data s;rw [hd] at this;exact h this.symm)
  have h2:((s.size:Int) == 2)=false:=(by rw [beq_eq_false_iff_ne];omega);clear h
  go_enter Tryz.func160,Tryz.ntmps160
  go_wp2;go_ret;exact⟨retb EE.out,rfl⟩
theorem nameS_eq (l:List UInt8):nameS l=nmB l:=name_iff l
theorem isVar_any (s:ByteArray) (w:World) (hs:s.size≤140737488351232) (ht:Tab w) :
  Calls Tryz.prog 136 #[.string s] w (tBool (varB s.data.toList) w):=by
 obtain⟨t,b,f,⟨p1,p2,p3,p4⟩,C⟩:=cutCode s hs;have C:=Lh C;have HT:=Lh ht
 have NC:Hid (∀ W,Below w.heap.size w W→Calls Tryz.prog 49 #[.string t] W fun e w'=>e=.returned (.bool (nmB t.data.toList))∧Below W.heap.size W w') :=
  Lh fun W hb=>by rw [←nameS_eq];exact isName_any t W (by omega) (HT.out.later hb)
 have IC:Hid (∀ W,Calls Tryz.prog 160 #[.string b] W fun e w'=>e=.returned (.bool (idxB b.data.toList))∧W=w'):=(Lh fun W=>isIndex_any b W);have VV:Hid (varB s.data.toList=(nmB t.data.toList&&(!f||idxB b.data.toList))):=Lh (by
  rcases p4 with ⟨rfl,e⟩ | ⟨rfl,e⟩
  ·rw [e,var_some p3];rfl
  ·rw [←e,var_none p3];simp)
 clear ht p1 p2 p3 p4;generalize nmB t.data.toList=n at *
 generalize idxB b.data.toList=i at *
 cases n
 ·go_enter Tryz.func136,Tryz.ntmps136
  go_wp2_with (first
   |(go_at_call 159;((with_reducible refine (C.out _).mono ?_);rintro e w1 ⟨rfl,hb⟩;have HB:=Lh hb;clear hb))
   |(go_at_call 49;((with_reducible refine (NC.out _ HB.out).mono ?_);rintro e w2 ⟨rfl,hb⟩;have HB2:=Lh hb;clear hb)))
  go_ret;exact tBool_mk (by rw [VV.out];rfl) (HB.out.then_ HB2.out)
 ·cases f
  ·go_enter Tryz.func136,Tryz.ntmps136
   go_wp2_with (first
    |(go_at_call 159;((with_reducible refine (C.out _).mono ?_);rintro e w1 ⟨rfl,hb⟩;have HB:=Lh hb;clear hb))
    |(go_at_call 49;((with_reducible refine (NC.out _ HB.out).mono ?_);rintro e w2 ⟨rfl,hb⟩;have HB2:=Lh hb;clear hb)))
   go_ret;exact tBool_mk (by rw [VV.out];rfl) (HB.out.then_ HB2.out)
  ·go_enter Tryz.func136,Tryz.ntmps136
   go_wp2_with (first
    |(go_at_call 159;((with_reducible refine (C.out _).mono ?_);rintro e w1 ⟨rfl,hb⟩;have HB:=Lh hb;clear hb))
    |(go_at_call 49;((with_reducible refine (NC.out _ HB.out).mono ?_);rintro e w2 ⟨rfl,hb⟩;have HB2:=Lh hb;clear hb))
    |(go_at_call 160;((with_reducible refine (IC.out _).mono ?_);rintro e w3 ⟨rfl,rfl⟩)))
   go_ret;exact tBool_mk (by rw [VV.out];rfl) (HB.out.then_ HB2.out)
end ExW
namespace ExW
open Go Go.RowKit LexW LexM ExM
theorem cases25 {o:Int} (h:1≤o∧o≤25):o=1∨o=2∨o=3∨o=4∨o=5∨o=6∨o=7∨o=8∨o=9∨o=10∨o=11∨o=12∨o=13∨o=14∨o=15∨o=16∨o=17∨o=18∨o=19∨o=20∨o=21∨o=22∨o=23∨o=24∨o=25:=by omega
theorem ar_out {o:Int} (h:¬ (1≤o∧o≤25)):arS o = -1:=by
 unfold arS;rw [if_neg (by omega),if_neg (by omega),if_neg (by omega),if_neg (by omega),if_neg (by omega)]
theorem arity_any (o:Int) (w:World):Calls Tryz.prog 158 #[.int .i64 o] w fun e w'=>e=.returned (.int .i64 (arS o))∧w=w':=by
 by_cases h:1≤o∧o≤25
 ·rcases cases25 h with rfl | rfl | rfl | rfl | rfl | rfl | rfl | rfl | rfl | rfl | rfl | rfl | rfl | rfl | rfl | rfl | rfl | rfl | rfl | rfl | rfl | rfl | rfl | rfl | rfl
  all_goals
   go_enter Tryz.func158,Tryz.ntmps158
   go_wp2;go_ret;exact⟨rfl,rfl⟩
 ·rw [ar_out h];have f1:(o == 1)=false:=(by rw [beq_eq_false_iff_ne];omega);have f2:(o == 2)=false:=(by rw [beq_eq_false_iff_ne];omega);have f3:(o == 3)=false:=(by rw [beq_eq_false_iff_ne];omega);have f4:(o == 4)=false:=(by rw [beq_eq_false_iff_ne];omega);have f5:(o == 5)=false:=(by rw [beq_eq_false_iff_ne];omega);have f6:(o == 6)=false:=(by rw [beq_eq_false_iff_ne];omega);have f7:(o == 7)=false:=(by rw [beq_eq_false_iff_ne];omega);have f8:(o == 8)=false:=(by rw [beq_eq_false_iff_ne];omega);have f9:(o == 9)=false:=(by rw [beq_eq_false_iff_ne];omega);have f10:(o == 10)=false:=(by rw [beq_eq_false_iff_ne];omega);have f11:(o == 11)=false:=(by rw [beq_eq_false_iff_ne];omega);have f12:(o == 12)=false:=(by rw [beq_eq_false_iff_ne];omega);have f13:(o == 13)=false:=(by rw [beq_eq_false_iff_ne];omega);have f14:(o == 14)=false:=(by rw [beq_eq_false_iff_ne];omega);have f15:(o == 15)=false:=(by rw [beq_eq_false_iff_ne];omega);have f16:(o == 16)=false:=(by rw [beq_eq_false_iff_ne];omega);have f17:(o == 17)=false:=(by rw [beq_eq_false_iff_ne];omega);have f18:(o == 18)=false:=(by rw [beq_eq_false_iff_ne];omega);have f19:(o == 19)=false:=(by rw [beq_eq_false_iff_ne];omega);have f20:(o == 20)=false:=(by rw [beq_eq_false_iff_ne];omega);have f21:(o == 21)=false:=(by rw [beq_eq_false_iff_ne];omega);have f22:(o == 22)=false:=(by rw [beq_eq_false_iff_ne];omega);have f23:(o == 23)=false:=(by rw [beq_eq_false_iff_ne];omega);have f24:(o == 24)=false:=(by rw [beq_eq_false_iff_ne];omega);have f25:(o == 25)=false:=(by rw [beq_eq_false_iff_ne];omega);have h1:decide (o<1)=true∨(decide (o<1)=false∧decide (25<o)=true):=by
   by_cases g:o<1
   ·exact .inl (by simpa using g)
   ·exact .inr ⟨by simpa using g,by simp;omega⟩
  clear h;rcases h1 with h1 | ⟨h1,h2⟩
  all_goals
   go_enter Tryz.func158,Tryz.ntmps158
   go_wp2;go_ret;exact⟨rfl,rfl⟩
end ExW
end Go.Proofs.YtihnejaopejbgaaGreatDoor
