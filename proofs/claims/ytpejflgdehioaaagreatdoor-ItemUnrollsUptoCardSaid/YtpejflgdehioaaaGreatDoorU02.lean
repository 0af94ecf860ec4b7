/-
  Laws that the card uses; no conditions beside those that each states (LexBest ClMath WordMath ExMath ExVal ExFold ItMath ExMem ExNameS ExAr ExValue).
-/
import Derived.Lib.Tables
import Derived.Laws.BitsAllLaws
import Derived.Laws.StructEq
import Derived.RangeFuncNested
import Derived.Deep.OwnRows
import Derived.Deep.RegionHeld3
import Derived.Lib.QuietBelow
import Derived.Test.YtpejflgdehioaaaGreatDoorU01
set_option maxRecDepth 100000
set_option maxHeartbeats 16000000
namespace Go.Proofs.YtpejflgdehioaaaGreatDoor
namespace LexM
open Go Go.RowKit NumM
def nmB (l:List UInt8):Bool:=match l with | []=>false | c::r=>decide (r.length+1≤16)&&(sml c&&(!isKw (c::r)&&(c::r).all wrd))
theorem wordS_all {l:List UInt8} (h:l.all wrd=true):wordS l=l:=by
 have:=List.takeWhile_append_of_pos (p:=wrd) (l₁:=l) (l₂:=[]) (fun a ha=>List.all_eq_true.1 h a ha)
 simpa [wordS] using this
theorem name_iff (l:List UInt8):validS ⟨1,0,l,0⟩=nmB l:=by
 rw [Bool.eq_iff_iff,valid_iff];constructor
 ·intro h;have h0:(firstS l).2=0:=(by show (firstS (Tk.text ⟨1,0,l,0⟩)).2=0;rw [h]);have hf:firstS l=(⟨1,0,l,0⟩,0):=h;rcases hw:wordS l with _ | ⟨c,r⟩
  ·rw [first_mark hw] at hf;unfold markT at hf;split at hf
   ·simp at hf
   ·split at hf
    ·simp at hf
    ·simp at hf
  ·rw [first_word hw] at hf;by_cases hs:sml c=true
   ·rw [if_pos hs] at hf;unfold nameT at hf;by_cases h16:16<(c::r).length
    ·rw [if_pos h16] at hf;simp at hf
    ·rw [if_neg h16] at hf;have ht:c::r=l:=(by have:=congrArg (fun x=>x.1.text) hf;exact this);have hk:isKw (c::r)=false:=by
      have:=congrArg (fun x=>x.1.kind) hf;cases e:isKw (c::r)
      ·rfl
      ·rw [e] at this;simp at this
     have hall:(c::r).all wrd=true:=by
      rw [List.all_eq_true];intro x hx;rw [←hw] at hx;exact word_all l x hx
     rw [←ht];simp only [nmB,hs,hk,hall,Bool.not_false,Bool.and_true];simp at h16 ⊢;omega
   ·rw [if_neg hs] at hf;unfold numT at hf;split at hf
    ·split at hf
     ·split at hf
      ·simp at hf
      ·simp at hf
     ·have:=congrArg (fun x=>x.1.kind) hf;simp [zTk] at this
    ·simp at hf
 ·intro h;cases l with
  | nil=>cases h
  | cons c r =>
   simp only [nmB,Bool.and_eq_true,decide_eq_true_eq,Bool.not_eq_true'] at h;obtain⟨h1,h2,h3,h4⟩:=h;have hw:wordS (c::r)=c::r:=wordS_all h4;show firstS (c::r)=_;rw [first_word hw,if_pos h2,nameT,if_neg (by rw [List.length_cons];omega),h3];rfl
end LexM
namespace ClM
open Go LexM
inductive Kd where
 | exprs | weights | items | strs | fields | blocks | classes
inductive Lf where
 | n (i:Int)
 | s (t:ByteArray)
 | b (v:Bool)
 | row (k:Kd) (l:List (List Lf))
inductive Sh where
 | n | s | b | r (k:Kd)
def shp:Kd→List Sh
 | .exprs=>[.n,.n,.s,.r .exprs]
 | .weights=>[.n,.n,.n,.b]
 | .items=>[.n,.n,.n,.s,.r .exprs,.s,.s,.r .weights,.r .items,.r .items,.r .strs,.r .strs]
 | .strs=>[.s]
 | .fields=>[.s,.n,.n,.n,.n]
 | .blocks=>[.s,.r .items]
 | .classes=>[.s,.s,.r .fields,.r .blocks]
def byt:Kd→Nat
 | .exprs=>56
 | .weights=>32
 | .items=>216
 | .strs=>16
 | .fields=>48
 | .blocks=>40
 | .classes=>80
structure Fld where
 nm:ByteArray
 wd:Int
 sz:Int
 md:Int
 ini:Int
structure Bk where
 nm:ByteArray
 it:List (List Lf)
structure Cl where
 nm:ByteArray
 par:ByteArray
 fs:List Fld
 bs:List Bk
def Fld.lf (f:Fld):List Lf:=[.s f.nm,.n f.wd,.n f.sz,.n f.md,.n f.ini]
def Bk.lf (b:Bk):List Lf:=[.s b.nm,.row .items b.it]
def Cl.lf (c:Cl):List Lf:=[.s c.nm,.s c.par,.row .fields (c.fs.map Fld.lf),.row .blocks (c.bs.map Bk.lf)]
def emp:ByteArray:=⟨#[]⟩
def zCl:Cl:=⟨emp,emp,[],[]⟩
def same (a b:ByteArray):Bool:=a.data.toList == b.data.toList
theorem same_iff {a b:ByteArray}:same a b=true↔a=b:=by
 unfold same;rw [beq_iff_eq];constructor
 ·intro h;obtain⟨⟨x⟩⟩:=a;obtain⟨⟨y⟩⟩:=b;simp at h;rw [h]
 ·rintro rfl;rfl
def bad (a:ByteArray):Bool:=!nmB a.data.toList
def maxI (f:Fld):Int:=if f.md=0 then 2 ^ f.wd.toNat - 1 else 0
def okF (f:Fld):Bool:=decide (1≤f.wd∧f.wd≤8∧0≤f.sz∧f.sz≤8∧0≤f.md∧f.md≤2∧¬ (0<f.sz∧f.md=2)∧0≤f.ini∧f.ini≤maxI f)
def fieldE (f:Fld):Int:=if bad f.nm=true then 7 else if okF f=true then 0 else 1
def firstE (l:List Int):Int:=(l.find? (fun e=>e != 0)).getD 0
theorem firstE_zero {l:List Int}:firstE l=0↔∀ e∈l,e=0:=by
 unfold firstE;constructor
 ·intro h e he;cases hf:l.find? (fun e=>e != 0) with
  | none=>have:=List.find?_eq_none.1 hf e he;simpa using this
  | some x =>
   have h1:=List.find?_some hf;rw [hf] at h;simp at h h1;exact absurd h h1
 ·intro h;rw [List.find?_eq_none.2 (fun x hx=>by simpa using h x hx)];rfl
theorem firstE_at {l:List Int} {k:Nat} {e:Int} (h:l[k]? = some e) (he:e≠0) (hz:∀ x∈l.take k,x=0):firstE l=e:=by
 unfold firstE;obtain⟨hk,hx⟩:=List.getElem?_eq_some_iff.1 h;have:l.find? (fun e=>e != 0)=some e:=by
  rw [←List.take_append_drop k l,List.find?_append,List.find?_eq_none.2 (fun x hx=>by simpa using hz x hx),List.drop_eq_getElem_cons hk,hx];simp [he]
 rw [this];rfl
def large (c:Cl):Bool:=decide (16<c.fs.length)||decide (16<c.bs.length)
structure Val (c:Cl):Prop where
 nm:bad c.nm=false
 par:c.par=emp∨bad c.par=false
 lg:large c=false
 fs:∀ f∈c.fs,fieldE f=0
 bs:∀ b∈c.bs,bad b.nm=false
 df:(c.fs.map Fld.nm).Nodup
 db:(c.bs.map Bk.nm).Nodup
def fnd (src:List Cl) (x:ByteArray):Option Cl:=src.find? (fun c=>same c.nm x)
def chain (src:List Cl):Nat→Cl→List Cl
 | 0,c=>[c]
 | k+1,c=>if same c.par emp=true then [c] else match fnd src c.par with
  | some d=>c::chain src k d
  | none=>[c]
def plc (bs:List Bk) (x:ByteArray):Option Nat:=bs.findIdx? (fun a=>same a.nm x)
def addB (bs:List Bk) (b:Bk):List Bk:=match plc bs b.nm with
 | some i=>bs.set i b
 | none=>bs++[b]
def addAll (bs ns:List Bk):List Bk:=ns.foldl addB bs
def stepC (c x:Cl):Cl:=⟨x.nm,emp,c.fs++x.fs,addAll c.bs x.bs⟩
def flatL (l:List Cl):Cl:=l.foldr (fun x c=>stepC c x) zCl
def lineOf (src:List Cl) (c:Cl):List Cl:=chain src src.length c
def flatOf (src:List Cl) (c:Cl):Cl:=flatL (lineOf src c)
def orphan (src:List Cl) (c:Cl):Bool:=!same c.par emp&&(fnd src c.par).isNone
structure Good (src:List Cl):Prop where
 len:src.length≤32
 val:∀ c∈src,Val c
 nd:(src.map Cl.nm).Nodup
 par:∀ c∈src,orphan src c=false
 ends:∀ c∈src,(lineOf src c).length≤src.length
 df:∀ c∈src,((flatOf src c).fs.map Fld.nm).Nodup
 lg:∀ c∈src,large (flatOf src c)=false
end ClM
namespace WordM
open Go
def bitN (x i:Nat):Nat:=x / 2 ^ i % 2
def sumN:Nat→Nat→Nat
 | 0,_=>0
 | n+1,x=>sumN n x+bitN x n
def wordN (a:Int):Nat:=(a % 65536).toNat
end WordM
namespace ExM
open Go WordM LexM
inductive Ex where
 | mk (op n:Int) (nm:ByteArray) (args:List Ex)
def Ex.op:Ex→Int | .mk o _ _ _=>o
def Ex.n:Ex→Int | .mk _ n _ _=>n
def Ex.nm:Ex→ByteArray | .mk _ _ s _=>s
def Ex.args:Ex→List Ex | .mk _ _ _ l=>l
theorem Ex.eta:∀ e:Ex,e=.mk e.op e.n e.nm e.args | .mk _ _ _ _=>rfl
theorem Ex.ind {P:Ex→Prop} (h:∀ o n s l,(∀ a∈l,P a)→P (.mk o n s l)) (e:Ex):P e :=
 Ex.rec (motive_1:=P) (motive_2:=fun l=>∀ a∈l,P a) (fun o n s l ih=>h o n s l ih) (fun _ ha=>nomatch ha)
  (fun _ _ hb hr a ha=>(List.mem_cons.1 ha).elim (fun e=>e ▸ hb) (fun g=>hr a g)) e
structure In where
 lv:Nat
 op:Int
 n:Int
 nm:ByteArray
 k:Nat
mutual
def pre (l:Nat):Ex→List In
 | .mk o n s ks=>⟨l,o,n,s,ks.length⟩::pres (l+1) ks
def pres (l:Nat):List Ex→List In
 | []=>[]
 | a::r=>pre l a++pres l r
end
theorem pre_mk (l:Nat) (o n:Int) (s:ByteArray) (ks:List Ex):pre l (.mk o n s ks)=⟨l,o,n,s,ks.length⟩::pres (l+1) ks:=by rw [pre]
theorem pres_nil (l:Nat):pres l []=[]:=by rw [pres]
theorem pres_cons (l:Nat) (a:Ex) (r:List Ex):pres l (a::r)=pre l a++pres l r:=by rw [pres]
theorem pres_append (l:Nat) (a b:List Ex):pres l (a++b)=pres l a++pres l b:=by
 induction a with
 | nil=>simp [pres_nil]
 | cons x r ih=>rw [List.cons_append,pres_cons,pres_cons,ih,List.append_assoc]
theorem pres_take {l k:Nat} {ks:List Ex} {a:Ex} (h:ks[k]? = some a):pres l (ks.take (k+1))=pres l (ks.take k)++pre l a:=by
 obtain⟨hk,he⟩:=List.getElem?_eq_some_iff.1 h;rw [List.take_succ_eq_append_getElem hk,pres_append,he,pres_cons,pres_nil,List.append_nil]
theorem mem_pres {l:Nat} {ks:List Ex} {x:In}:x∈pres l ks↔∃ a∈ks,x∈pre l a:=by
 induction ks with
 | nil=>simp [pres_nil]
 | cons b r ih=>rw [pres_cons,List.mem_append,ih];simp
mutual
def sz:Ex→Nat
 | .mk _ _ _ ks=>szs ks+1
def szs:List Ex→Nat
 | []=>0
 | a::r=>sz a+szs r
def dep:Ex→Nat
 | .mk _ _ _ ks=>deps ks+1
def deps:List Ex→Nat
 | []=>0
 | a::r=>max (dep a) (deps r)
end
theorem sz_mk (o n:Int) (s:ByteArray) (ks:List Ex):sz (.mk o n s ks)=szs ks+1:=by rw [sz]
theorem szs_nil:szs []=0:=by rw [szs]
theorem szs_cons (a:Ex) (r:List Ex):szs (a::r)=sz a+szs r:=by rw [szs]
theorem dep_mk (o n:Int) (s:ByteArray) (ks:List Ex):dep (.mk o n s ks)=deps ks+1:=by rw [dep]
theorem deps_nil:deps []=0:=by rw [deps]
theorem deps_cons (a:Ex) (r:List Ex):deps (a::r)=max (dep a) (deps r):=by rw [deps]
theorem sz_pos (e:Ex):0<sz e:=by cases e;rw [sz_mk];omega
theorem szs_append (a b:List Ex):szs (a++b)=szs a+szs b:=by
 induction a with
 | nil=>simp [szs_nil]
 | cons x r ih=>rw [List.cons_append,szs_cons,szs_cons,ih];omega
theorem szs_take {k:Nat} {ks:List Ex} {a:Ex} (h:ks[k]? = some a):szs (ks.take (k+1))=szs (ks.take k)+sz a:=by
 obtain⟨hk,he⟩:=List.getElem?_eq_some_iff.1 h;rw [List.take_succ_eq_append_getElem hk,szs_append,he,szs_cons,szs_nil];omega
theorem szs_take_le (k:Nat) (ks:List Ex):szs (ks.take k)≤szs ks:=by
 have:=szs_append (ks.take k) (ks.drop k);rw [List.take_append_drop] at this;omega
theorem len_szs (ks:List Ex):ks.length≤szs ks:=by
 induction ks with
 | nil=>simp
 | cons a r ih=>rw [szs_cons];have:=sz_pos a;simp;omega
theorem sz_mem {ks:List Ex} {a:Ex} (h:a∈ks):sz a≤szs ks:=by
 induction ks with
 | nil=>cases h
 | cons b r ih =>
  rw [szs_cons];rcases List.mem_cons.1 h with rfl | h
  ·omega
  ·have:=ih h;omega
theorem pres_len {l:Nat} {ks:List Ex} (h:∀ a∈ks,(pre l a).length=sz a):(pres l ks).length=szs ks:=by
 induction ks with
 | nil=>rw [pres_nil,szs_nil];rfl
 | cons b r ih=>rw [pres_cons,szs_cons,List.length_append,h b (by simp),ih (fun a ha=>h a (by simp [ha]))]
theorem pre_len (e:Ex):∀ l,(pre l e).length=sz e:=by
 induction e using Ex.ind with
 | h o n s ks ih=>intro l;rw [pre_mk,sz_mk,List.length_cons,pres_len (fun a ha=>ih a ha _)]
def mxL (L:List In):Nat:=L.foldl (fun d x=>max d x.lv) 0
theorem mx_fold (L:List In):∀ d,L.foldl (fun d x=>max d x.lv) d=max d (mxL L):=by
 unfold mxL;induction L with
 | nil=>intro d;simp
 | cons x r ih=>intro d;rw [List.foldl_cons,List.foldl_cons,ih,ih (max 0 x.lv)];omega
theorem mx_append (A B:List In):mxL (A++B)=max (mxL A) (mxL B):=by
 unfold mxL;rw [List.foldl_append,mx_fold B];rfl
theorem mx_one (x:In):mxL [x]=x.lv:=by simp [mxL]
theorem mx_cons (x:In) (A:List In):mxL (x::A)=max x.lv (mxL A):=by
 rw [show x::A=[x]++A from rfl,mx_append,mx_one]
theorem mx_nil:mxL []=0:=rfl
theorem pres_mx {l:Nat} {ks:List Ex} (hl:0<ks.length) (h:∀ a∈ks,mxL (pre l a)+1=l+dep a):mxL (pres l ks)+1=l+deps ks:=by
 induction ks with
 | nil=>simp at hl
 | cons b r ih =>
  rw [pres_cons,deps_cons,mx_append];have hb:=h b (by simp);cases r with
  | nil=>rw [pres_nil,deps_nil,mx_nil];omega
  | cons c r=>have:=ih (by simp) (fun a ha=>h a (by simp [ha]));omega
theorem pre_mx (e:Ex):∀ l,mxL (pre l e)+1=l+dep e:=by
 induction e using Ex.ind with
 | h o n s ks ih =>
  intro l;rw [pre_mk,dep_mk,mx_cons];cases ks with
  | nil=>rw [pres_nil,deps_nil,mx_nil];simp
  | cons b r=>have:=pres_mx (l:=l+1) (ks:=b::r) (by simp) (fun a ha=>ih a ha _);simp only;omega
open Classical in
noncomputable def addN (l:List ByteArray) (s:ByteArray):List ByteArray:=if s∈l then l else l++[s]
noncomputable def stepN (p:Int→Bool) (l:List ByteArray) (x:In):List ByteArray:=if p x.op then addN l x.nm else l
noncomputable def namesL (p:Int→Bool) (L:List In):List ByteArray:=L.foldl (stepN p) []
def isVr (o:Int):Bool:=decide (o=2)
def isAr (o:Int):Bool:=decide (o=3)||decide (o=24)
def arS (o:Int):Int :=
 if o=1∨o=2∨o=24 then 0 else if o=3∨o=4∨o=5∨o=6∨o=25 then 1 else if o=22 then 3 else if o=23 then -1 else if 1≤o∧o≤25 then 2 else -1
def takesS (o:Int) (k:Nat):Bool:=if o=23 then decide (3≤k∧k≤33∧k % 2=1) else decide ((k:Int)=arS o)
def greatS (o:Int):Int:=if o=1 then 65535 else 0
def elmB (l:List UInt8):Bool :=
 match l.reverse with
 | c::d::b::r=>decide (c=93)&&(decide (b=91)&&(decide (48≤d.toNat∧d.toNat≤55)&&nmB r.reverse))
 | _=>false
def varB (l:List UInt8):Bool:=elmB l||nmB l
def badA (x:In):Bool:=!takesS x.op x.k||(decide (x.n<0)||(decide (greatS x.op<x.n)||(!decide (x.nm.size=0)&&(!isVr x.op&&!isAr x.op))))
def badN (x:In):Bool:=(isVr x.op&&!varB x.nm.data.toList)||(isAr x.op&&!nmB x.nm.data.toList)
def fltS (x:In):Int:=if badA x=true then 1 else if badN x=true then 7 else 0
def fstE (L:List In):Int:=L.foldl (fun f x=>if f=0 then fltS x else f) 0
theorem fst_snoc (L:List In) (x:In):fstE (L++[x])=if fstE L=0 then fltS x else fstE L:=by
 unfold fstE;rw [List.foldl_append];rfl
theorem fst_append (A B:List In):fstE (A++B)=if fstE A=0 then fstE B else fstE A:=by
 have:∀ (B:List In) (f:Int),B.foldl (fun f x=>if f=0 then fltS x else f) f=if f=0 then fstE B else f:=by
  intro B;unfold fstE;induction B with
  | nil=>intro f;simp
  | cons y r ih =>
   intro f;rw [List.foldl_cons,List.foldl_cons,ih];by_cases h:f=0
   ·subst h;simp only [if_true];rw [ih (fltS y)]
   ·simp only [if_neg h]
 unfold fstE at *;rw [List.foldl_append,this]
theorem fst_zero (L:List In):fstE L=0↔∀ x∈L,fltS x=0:=by
 induction L with
 | nil=>simp [fstE]
 | cons y r ih =>
  rw [show y::r=[y]++r from rfl,fst_append];have h1:fstE [y]=fltS y:=(by simp [fstE]);rw [h1];by_cases h:fltS y=0
  ·rw [if_pos h,ih];simp [h]
  ·rw [if_neg h];simp [h]
def vldL (L:List In):Int:=if fstE L=0 then (if 24<mxL L∨400<L.length then 2 else 0) else fstE L
theorem flt_lv (l m:Nat) (o n:Int) (s:ByteArray) (k:Nat):fltS ⟨l,o,n,s,k⟩=fltS ⟨m,o,n,s,k⟩:=rfl
theorem flt_range (x:In):fltS x=0∨fltS x=1∨fltS x=7:=by
 unfold fltS;split
 ·simp
 ·split<;>simp
def Ok (e:Ex):Prop:=∀ x∈pre 0 e,fltS x=0
theorem pres_lv {l:Nat} {ks:List Ex} (m:Nat) (h:∀ a∈ks,(∀ x∈pre l a,fltS x=0)→∀ x∈pre m a,fltS x=0) (g:∀ x∈pres l ks,fltS x=0):∀ x∈pres m ks,fltS x=0:=by
 intro x hx;obtain⟨a,ha,hxa⟩:=mem_pres.1 hx;exact h a ha (fun y hy=>g y (mem_pres.2 ⟨a,ha,hy⟩)) x hxa
theorem pre_lv (e:Ex):∀ l m,(∀ x∈pre l e,fltS x=0)→∀ x∈pre m e,fltS x=0:=by
 induction e using Ex.ind with
 | h o n s ks ih =>
  intro l m h x hx;rw [pre_mk] at hx;rcases List.mem_cons.1 hx with rfl | hx
  ·have:=h ⟨l,o,n,s,ks.length⟩ (by rw [pre_mk];simp);rw [flt_lv m l];exact this
  ·exact pres_lv (l:=l+1) (m+1) (fun a ha=>ih a ha _ _) (fun y hy=>h y (by rw [pre_mk];simp [hy])) x hx
theorem ok_at (e:Ex) (l:Nat):Ok e↔∀ x∈pre l e,fltS x=0:=⟨pre_lv e 0 l,pre_lv e l 0⟩
theorem ok_mk (o n:Int) (s:ByteArray) (ks:List Ex):Ok (.mk o n s ks)↔fltS ⟨0,o,n,s,ks.length⟩=0∧∀ a∈ks,Ok a:=by
 constructor
 ·intro h;refine⟨h _ (by rw [pre_mk];simp),fun a ha=>(ok_at a 1).2 fun x hx=>h x (by rw [pre_mk];exact List.mem_cons_of_mem _ (mem_pres.2 ⟨a,ha,hx⟩))⟩
 ·rintro ⟨h1,h2⟩ x hx;rw [pre_mk] at hx;rcases List.mem_cons.1 hx with rfl | hx
  ·exact h1
  ·obtain⟨a,ha,hxa⟩:=mem_pres.1 hx;exact (ok_at a _).1 (h2 a ha) x hxa
def vld (e:Ex):Int:=vldL (pre 1 e)
theorem vld_zero (e:Ex):vld e=0↔Ok e∧dep e≤24∧sz e≤400:=by
 have h1:=pre_mx e 1;have h2:=pre_len e 1;unfold vld vldL;by_cases h:fstE (pre 1 e)=0
 ·rw [if_pos h,ok_at e 1,←fst_zero];by_cases g:24<mxL (pre 1 e)∨400<(pre 1 e).length
  ·rw [if_pos g];constructor
   ·intro x;omega
   ·rintro ⟨_,b,c⟩;omega
  ·rw [if_neg g];simp only [h,true_and];constructor
   ·intro _;omega
   ·intro _;trivial
 ·rw [if_neg h,ok_at e 1,←fst_zero];simp [h]
theorem vld_range (e:Ex):0≤vld e∧vld e≤7:=by
 unfold vld vldL;have:∀ L,0≤fstE L∧fstE L≤7:=by
  intro L;unfold fstE;have:∀ (L:List In) f,(0≤f∧f≤7)→0≤L.foldl (fun f x=>if f=0 then fltS x else f) f∧L.foldl (fun f x=>if f=0 then fltS x else f) f≤7:=by
   intro L;induction L with
   | nil=>intro f h;exact h
   | cons y r ih =>
    intro f h;rw [List.foldl_cons];apply ih;have:=flt_range y;split<;>omega
  exact this L 0 (by omega)
 have:=this (pre 1 e);split
 ·split<;>omega
 ·exact this
abbrev Env:=List (ByteArray × Int)
def findS:Env→ByteArray→Option Int
 | [],_=>none
 | (a,v)::r,s=>if a.data.toList=s.data.toList then some (v % 65536) else findS r s
def fnd (env:Env) (s:ByteArray):Int:=(findS env s).getD 0
def hasN (env:Env) (s:ByteArray):Bool:=(findS env s).isSome
def elmN (a:ByteArray) (i:Nat):ByteArray:=⟨(a.data.toList++[91,UInt8.ofNat (48+i),93]).toArray⟩
def elS (env:Env) (a:ByteArray) (i:Int):Int:=if 0≤i∧i≤7 then fnd env (elmN a i.toNat) else 0
def sumK (env:Env) (a:ByteArray):Nat→Int
 | 0=>0
 | k+1=>(sumK env a k+elS env a k) % 65536
def ix (l:List Int) (i:Nat):Int:=l.getD i 0
def tr (b:Bool):Int:=if b then 1 else 0
def shlM (a n:Int):Int:=if 0≤n∧n≤15 then a*2 ^ n.toNat % 65536 else 0
def shrM (a n:Int):Int:=if 0≤n∧n≤15 then a % 65536 / 2 ^ n.toNat else 0
def onesM (a:Int):Int:=(sumN 16 (wordN a):Int)
def insB (n:Int):List Int→Bool
 | a::b::r=>(decide (a≤n)&&decide (n≤b))||insB n r
 | _=>false
def opS (o:Int) (l:List Int):Int :=
 if o=4 then tr (decide (ix l 0=0))
 else if o=5 then 65535 - ix l 0 % 65536
 else if o=6 then -ix l 0 % 65536
 else if o=25 then onesM (ix l 0)
 else if o=7 then (ix l 0+ix l 1) % 65536
 else if o=8 then (ix l 0 - ix l 1) % 65536
 else if o=9 then ix l 0*ix l 1 % 65536
 else if o=13 then shlM (ix l 0) (ix l 1)
 else if o=14 then shrM (ix l 0) (ix l 1)
 else if o=10 then (((ix l 0).toNat &&& (ix l 1).toNat:Nat):Int)
 else if o=11 then (((ix l 0).toNat ||| (ix l 1).toNat:Nat):Int)
 else if o=12 then (((ix l 0).toNat ^^^ (ix l 1).toNat:Nat):Int)
 else if o=15 then tr (decide (ix l 0=ix l 1))
 else if o=16 then tr (!decide (ix l 0=ix l 1))
 else if o=17 then tr (decide (ix l 0<ix l 1))
 else if o=18 then tr (decide (ix l 0≤ix l 1))
 else if o=19 then tr (!decide (ix l 0=0)&&!decide (ix l 1=0))
 else if o=20 then tr (!decide (ix l 0=0)||!decide (ix l 1=0))
 else if o=21 then tr (decide (ix l 0=0)||!decide (ix l 1=0))
 else if o=22 then (if ix l 0=0 then ix l 2 else ix l 1)
 else tr (insB (ix l 0) l.tail)
def valS (env:Env) (o n:Int) (s:ByteArray) (l:List Int):Int :=
 if o=1 then n else if o=2 then fnd env s else if o=3 then elS env s (ix l 0) else if o=24 then sumK env s 8 else opS o l
def knwS (env:Env) (o:Int) (s:ByteArray):Bool :=
 if o=2 then hasN env s else if o=3∨o=24 then hasN env (elmN s 0) else true
mutual
def ev (env:Env):Ex→Int
 | .mk o n s ks=>valS env o n s (evs env ks)
def evs (env:Env):List Ex→List Int
 | []=>[]
 | a::r=>ev env a::evs env r
def kn (env:Env):Ex→Bool
 | .mk o _ s ks=>kns env ks&&knwS env o s
def kns (env:Env):List Ex→Bool
 | []=>true
 | a::r=>kn env a&&kns env r
end
theorem ev_mk (env:Env) (o n:Int) (s:ByteArray) (ks:List Ex):ev env (.mk o n s ks)=valS env o n s (evs env ks):=by rw [ev]
theorem evs_map (env:Env) (ks:List Ex):evs env ks=ks.map (ev env):=by
 induction ks with
 | nil=>rw [evs];rfl
 | cons a r ih=>rw [evs,ih];rfl
theorem kn_mk (env:Env) (o n:Int) (s:ByteArray) (ks:List Ex):kn env (.mk o n s ks)=(kns env ks&&knwS env o s):=by rw [kn]
theorem kns_all (env:Env) (ks:List Ex):kns env ks=ks.all (kn env):=by
 induction ks with
 | nil=>rw [kns];rfl
 | cons a r ih=>rw [kns,ih];rfl
def evalS (env:Env) (e:Ex):Int × Int:=if vld e=0 then (if kn env e=true then (ev env e,0) else (0,7)) else (0,1)
mutual
def su (nm:ByteArray) (by_:Ex):Ex→Ex
 | .mk o n s ks=>if isVr o=true∧s.data.toList=nm.data.toList then by_ else .mk o n s (sus nm by_ ks)
def sus (nm:ByteArray) (by_:Ex):List Ex→List Ex
 | []=>[]
 | a::r=>su nm by_ a::sus nm by_ r
end
theorem sus_map (nm:ByteArray) (b:Ex) (ks:List Ex):sus nm b ks=ks.map (su nm b):=by
 induction ks with
 | nil=>rw [sus];rfl
 | cons a r ih=>rw [sus,ih];rfl
theorem su_mk (nm:ByteArray) (b:Ex) (o n:Int) (s:ByteArray) (ks:List Ex):su nm b (.mk o n s ks)=if isVr o=true∧s.data.toList=nm.data.toList then b else .mk o n s (ks.map (su nm b)):=by rw [su,sus_map]
theorem su_sz (nm:ByteArray) (b e:Ex):sz (su nm b e)≤sz e*sz b:=by
 induction e using Ex.ind with
 | h o n s ks ih =>
  rw [su_mk,sz_mk];have hb:=sz_pos b;split
  ·exact Nat.le_mul_of_pos_left _ (by omega)
  ·rw [sz_mk];have:szs (ks.map (su nm b))≤szs ks*sz b:=by
    clear hb;induction ks with
    | nil=>simp [szs_nil]
    | cons a r ih2 =>
     rw [List.map_cons,szs_cons,szs_cons,Nat.add_mul];have h1:=ih a (by simp);have h2:=ih2 (fun c hc=>ih c (by simp [hc]));omega
   rw [Nat.add_mul];omega
end ExM
namespace ItM
open Go WordM LexM ExM
open ClM (Fld firstE firstE_zero firstE_at)
structure Wt where
 lo:Int
 hi:Int
 wt:Int
 ea:Bool
inductive It where
 | mk (kd:Int) (e:Ex) (nm ix:ByteArray) (ws:List Wt) (it el:List It) (bf af:List ByteArray)
def It.kd:It→Int | .mk k _ _ _ _ _ _ _ _=>k
def It.e:It→Ex | .mk _ e _ _ _ _ _ _ _=>e
def It.nm:It→ByteArray | .mk _ _ s _ _ _ _ _ _=>s
def It.ix:It→ByteArray | .mk _ _ _ s _ _ _ _ _=>s
def It.ws:It→List Wt | .mk _ _ _ _ l _ _ _ _=>l
def It.it:It→List It | .mk _ _ _ _ _ l _ _ _=>l
def It.el:It→List It | .mk _ _ _ _ _ _ l _ _=>l
def It.bf:It→List ByteArray | .mk _ _ _ _ _ _ _ l _=>l
def It.af:It→List ByteArray | .mk _ _ _ _ _ _ _ _ l=>l
theorem It.eta:∀ x:It,x=.mk x.kd x.e x.nm x.ix x.ws x.it x.el x.bf x.af | .mk _ _ _ _ _ _ _ _ _=>rfl
theorem its_ind {P:List It→Prop} (h:∀ l,(∀ x∈l,P x.it∧P x.el)→P l) (l:List It):P l :=
 h l (It.rec_1 (motive_1:=fun x=>P x.it∧P x.el) (motive_2:=fun l=>∀ x∈l,P x.it∧P x.el)
  (fun _ _ _ _ _ it el _ _ hi he=>⟨h it hi,h el he⟩) (fun _ ha=>nomatch ha)
  (fun _ _ hb hr a ha=>(List.mem_cons.1 ha).elim (fun e=>e ▸ hb) (fun g=>hr a g)) l)
theorem its_rec {P:List It→Prop} (h0:P []) (h1:∀ x r,P x.it→P x.el→P r→P (x::r)) (l:List It):P l:=by
 induction l using its_ind with
 | h l ih =>
  induction l with
  | nil=>exact h0
  | cons x r ih2=>exact h1 x r (ih x (by simp)).1 (ih x (by simp)).2 (ih2 fun y hy=>ih y (by simp [hy]))
mutual
def isz:It→Nat
 | .mk _ _ _ _ _ it el _ _=>iszs it+iszs el+1
def iszs:List It→Nat
 | []=>0
 | a::r=>isz a+iszs r
end
theorem isz_eq (x:It):isz x=iszs x.it+iszs x.el+1:=by cases x;rw [isz];rfl
theorem iszs_nil:iszs []=0:=by rw [iszs]
theorem iszs_cons (a:It) (r:List It):iszs (a::r)=isz a+iszs r:=by rw [iszs]
theorem iszs_append (a b:List It):iszs (a++b)=iszs a+iszs b:=by
 induction a with
 | nil=>simp [iszs_nil]
 | cons x r ih=>rw [List.cons_append,iszs_cons,iszs_cons,ih];omega
theorem iszs_take {k:Nat} {l:List It} {a:It} (h:l[k]? = some a):iszs (l.take (k+1))=iszs (l.take k)+isz a:=by
 obtain⟨hk,he⟩:=List.getElem?_eq_some_iff.1 h;rw [List.take_succ_eq_append_getElem hk,iszs_append,he,iszs_cons,iszs_nil];omega
theorem iszs_take_le (k:Nat) (l:List It):iszs (l.take k)≤iszs l:=by
 have:=iszs_append (l.take k) (l.drop k);rw [List.take_append_drop] at this;omega
theorem len_iszs (l:List It):l.length≤iszs l:=by
 induction l with
 | nil=>simp
 | cons a r ih=>rw [iszs_cons,isz_eq];simp;omega
theorem isz_mem {l:List It} {a:It} (h:a∈l):isz a≤iszs l:=by
 induction l with
 | nil=>cases h
 | cons b r ih =>
  rw [iszs_cons];rcases List.mem_cons.1 h with rfl | h
  ·omega
  ·have:=ih h;omega
structure Pl where
 d:Nat
 B:List ByteArray
 x:It
def inn (kd:Int) (ix:ByteArray) (B:List ByteArray):List ByteArray:=if kd=5 then ix::B else B
mutual
def wk (d:Nat) (B:List ByteArray):It→List Pl
 | .mk kd e nm ix ws it el bf af=>⟨d,B,.mk kd e nm ix ws it el bf af⟩::(wks (d+1) (inn kd ix B) it++wks (d+1) B el)
def wks (d:Nat) (B:List ByteArray):List It→List Pl
 | []=>[]
 | a::r=>wk d B a++wks d B r
end
theorem wk_eq (d:Nat) (B:List ByteArray) (x:It):wk d B x=⟨d,B,x⟩::(wks (d+1) (inn x.kd x.ix B) x.it++wks (d+1) B x.el):=by cases x;rw [wk];rfl
theorem wks_nil (d:Nat) (B:List ByteArray):wks d B []=[]:=by rw [wks]
theorem wks_cons (d:Nat) (B:List ByteArray) (a:It) (r:List It):wks d B (a::r)=wk d B a++wks d B r:=by rw [wks]
theorem wks_append (d:Nat) (B:List ByteArray) (a b:List It):wks d B (a++b)=wks d B a++wks d B b:=by
 induction a with
 | nil=>simp [wks_nil]
 | cons x r ih=>rw [List.cons_append,wks_cons,wks_cons,ih,List.append_assoc]
theorem wks_take {d k:Nat} {B:List ByteArray} {l:List It} {a:It} (h:l[k]? = some a):wks d B (l.take (k+1))=wks d B (l.take k)++wk d B a:=by
 obtain⟨hk,he⟩:=List.getElem?_eq_some_iff.1 h;rw [List.take_succ_eq_append_getElem hk,wks_append,he,wks_cons,wks_nil,List.append_nil]
theorem wks_len (l:List It):∀ d B,(wks d B l).length=iszs l:=by
 induction l using its_rec with
 | h0=>intro d B;rw [wks_nil,iszs_nil];rfl
 | h1 x r h1 h2 h3=>intro d B;rw [wks_cons,wk_eq,iszs_cons,isz_eq,List.length_append,List.length_cons,List.length_append,h1,h2,h3]
def Nd1 (x:It):Prop:=sz x.e≤10000∧x.ws.length≤1000∧x.bf.length≤1000∧x.af.length≤1000
mutual
def RsI:It→Prop
 | .mk kd e nm ix ws it el bf af=>Nd1 (.mk kd e nm ix ws it el bf af)∧RsL it∧RsL el
def RsL:List It→Prop
 | []=>True
 | a::r=>RsI a∧RsL r
end
theorem rsI_eq (x:It):RsI x↔Nd1 x∧RsL x.it∧RsL x.el:=by cases x;rw [RsI];rfl
theorem rsL_nil:RsL []:=by rw [RsL];trivial
theorem rsL_cons (a:It) (r:List It):RsL (a::r)↔RsI a∧RsL r:=by rw [RsL]
theorem rsL_mem {l:List It}:RsL l↔∀ x∈l,RsI x:=by
 induction l with
 | nil=>simp [rsL_nil]
 | cons a r ih=>rw [rsL_cons,ih];simp
theorem rs_wks (l:List It):∀ d B,RsL l→∀ p∈wks d B l,Nd1 p.x:=by
 induction l using its_rec with
 | h0=>intro d B _ p hp;rw [wks_nil] at hp;cases hp
 | h1 x r h1 h2 h3 =>
  intro d B h p hp;rw [rsL_cons,rsI_eq] at h;rw [wks_cons,wk_eq] at hp;rcases List.mem_append.1 hp with hp | hp
  ·rcases List.mem_cons.1 hp with rfl | hp
   ·exact h.1.1
   ·rcases List.mem_append.1 hp with hp | hp
    ·exact h1 _ _ h.1.2.1 p hp
    ·exact h2 _ _ h.1.2.2 p hp
  ·exact h3 _ _ h.2 p hp
def zE:Ex:=.mk 0 0 ⟨#[]⟩ []
def isEmp (s:ByteArray):Bool:=decide (s.size=0)
def zB (e:Ex):Bool:=decide (e.op=0)&&(decide (e.n=0)&&(isEmp e.nm&&e.args.isEmpty))
def freeB (x:It):Bool :=
 if x.kd=1∨x.kd=2 then isEmp x.nm&&(isEmp x.ix&&(x.ws.isEmpty&&(x.it.isEmpty&&(x.el.isEmpty&&(x.bf.isEmpty&&x.af.isEmpty)))))
 else if x.kd=3 then zB x.e&&(isEmp x.ix&&(x.it.isEmpty&&(x.el.isEmpty&&(x.bf.isEmpty&&x.af.isEmpty))))
 else if x.kd=4 then isEmp x.nm&&(isEmp x.ix&&(x.ws.isEmpty&&(x.bf.isEmpty&&x.af.isEmpty)))
 else if x.kd=5 then zB x.e&&(x.ws.isEmpty&&(x.el.isEmpty&&(x.bf.isEmpty&&x.af.isEmpty)))
 else zB x.e&&(isEmp x.nm&&(isEmp x.ix&&(x.ws.isEmpty&&(x.it.isEmpty&&x.el.isEmpty))))
def outK (k:Int):Bool:=decide (k=3)||decide (k=6)
def kindB (k:Int):Bool:=decide (1≤k)&&decide (k≤6)
def wrongW (w:Wt):Bool:=decide (w.lo<0)||(decide (w.hi<w.lo)||(decide (65535<w.hi)||(decide (w.wt<0)||decide (1000<w.wt))))
def noVar (s:ByteArray):Bool:=!varB s.data.toList
def nameB (s:ByteArray):Bool:=nmB s.data.toList
def distE (x:It):Int:=if 16<x.ws.length then 2 else if x.ws.length=0∨x.ws.any wrongW=true then 1 else if noVar x.nm=true then 7 else 0
def solveE (x:It):Int:=if x.bf.length=0∨x.af.length=0 then 1 else if x.bf.any noVar=true∨x.af.any noVar=true then 7 else 0
def fltI (d:Nat) (x:It):Int :=
 if (!kindB x.kd||(!freeB x||(decide (4<d)||(decide (0<d)&&outK x.kd))))=true then 1
 else if x.kd=3 then distE x
 else if x.kd=6 then solveE x
 else if x.kd=5 then (if nameB x.nm=true∧nameB x.ix=true then 0 else 7)
 else vld x.e
def fltP (p:Pl):Int:=fltI p.d p.x
def firstV (l:List It):Int:=firstE ((wks 0 [] l).map fltP)
def validI (l:List It):Int:=if 64<iszs l then 2 else firstV l
theorem firstE_nil:firstE []=0:=rfl
theorem firstE_cons (a:Int) (l:List Int):firstE (a::l)=if a=0 then firstE l else a:=by
 unfold firstE;rw [List.find?_cons];by_cases h:a=0
 ·subst h;simp
 ·have h2:(a != 0)=true:=(by simpa using h);rw [h2,if_neg h];rfl
theorem firstE_append (a b:List Int):firstE (a++b)=if firstE a=0 then firstE b else firstE a:=by
 induction a with
 | nil=>simp [firstE_nil]
 | cons x r ih =>
  rw [List.cons_append,firstE_cons,firstE_cons,ih];by_cases h:x=0
  ·simp [h]
  ·simp [h]
theorem firstE_snoc (a:List Int) (x:Int):firstE (a++[x])=if firstE a=0 then x else firstE a:=by
 rw [firstE_append,firstE_cons,firstE_nil];by_cases h:x=0<;>simp [h]
def szO (fs:List Fld) (s:ByteArray):Option Int:=(fs.find? (fun f=>ClM.same f.nm s)).map Fld.sz
def szI (fs:List Fld) (s:ByteArray):Int:=(szO fs s).getD 0
def hasA (fs:List Fld) (s:ByteArray):Bool:=decide (0<szI fs s)
def hasP (fs:List Fld) (s:ByteArray):Bool:=match szO fs s with | some n=>decide (n≤0) | none=>false
def cutA (s:ByteArray):ByteArray:=⟨(s.data.toList.take (s.data.toList.length - 3)).toArray⟩
def cutK (s:ByteArray):Int:=(((s.data.toList.getD (s.data.toList.length - 2) 48).toNat - 48:Nat):Int)
def isE (s:ByteArray):Bool:=elmB s.data.toList
def hasV (fs:List Fld) (s:ByteArray):Bool:=hasP fs s||(isE s&&decide (cutK s<szI fs (cutA s)))
def misP (fs:List Fld) (s:ByteArray):Bool:=isE s&&hasP fs (cutA s)
def unkB (fs:List Fld) (s:ByteArray):Bool:=misP fs s||(!hasV fs s&&!hasA fs s)
def arrE (fs:List Fld) (s:ByteArray):Int:=if hasP fs s=true then 9 else if hasA fs s=true then 0 else 7
def varE (fs:List Fld) (s:ByteArray):Int:=if (hasA fs s||misP fs s)=true then 9 else if hasV fs s=true then 0 else 7
def memB (B:List ByteArray) (s:ByteArray):Bool:=B.any (fun t=>ClM.same t s)
def nodE (fs:List Fld) (B:List ByteArray) (x:In):Int:=if isAr x.op=true then arrE fs x.nm else if (isVr x.op&&!memB B x.nm)=true then varE fs x.nm else 0
def exE (fs:List Fld) (B:List ByteArray) (e:Ex):Int:=firstE ((pre 1 e).map (nodE fs B))
def chkI (fs:List Fld) (B:List ByteArray) (x:It):Int :=
 if x.kd=3 then (if unkB fs x.nm=true then 7 else 0)
 else if x.kd=6 then (if (x.bf++x.af).any (unkB fs)=true then 7 else 0)
 else if x.kd=5 then (if arrE fs x.nm=0 then (if ((szO fs x.ix).isSome||memB B x.ix)=true then 8 else 0) else arrE fs x.nm)
 else exE fs B x.e
def chkP (fs:List Fld) (p:Pl):Int:=chkI fs p.B p.x
def firstC (fs:List Fld) (l:List It):Int:=firstE ((wks 0 [] l).map (chkP fs))
def checkI (fs:List Fld) (l:List It):Int:=if validI l=0 then firstC fs l else validI l
def nodN (B:List ByteArray) (x:In):List ByteArray:=if (isAr x.op||(isVr x.op&&!memB B x.nm))=true then [x.nm] else []
def exN (B:List ByteArray) (e:Ex):List ByteArray:=(pre 1 e).flatMap (nodN B)
def ownN (B:List ByteArray) (x:It):List ByteArray :=
 if x.kd=1∨x.kd=2∨x.kd=4 then exN B x.e else if x.kd=3∨x.kd=5 then [x.nm] else if x.kd=6 then x.bf++x.af else []
def addN (l:List ByteArray) (s:ByteArray):List ByteArray:=if memB l s=true then l else l++[s]
def cst (k:Int):Ex:=.mk 1 k ⟨#[]⟩ []
mutual
def cntI (fs:List Fld):It→Int
 | .mk kd _ nm _ _ it el _ _=>if kd=4 then cntL fs it+cntL fs el else if kd=5 then cntL fs it*min (szI fs nm) 401 else 1
def cntL (fs:List Fld):List It→Int
 | []=>0
 | a::r=>cntI fs a+cntL fs r
end
theorem cntI_eq (fs:List Fld) (x:It):cntI fs x=if x.kd=4 then cntL fs x.it+cntL fs x.el else if x.kd=5 then cntL fs x.it*min (szI fs x.nm) 401 else 1:=by cases x;rw [cntI];rfl
theorem cntL_nil (fs:List Fld):cntL fs []=0:=by rw [cntL]
theorem cntL_cons (fs:List Fld) (a:It) (r:List It):cntL fs (a::r)=cntI fs a+cntL fs r:=by rw [cntL]
def und (q:Option Ex) (op:Int) (e:Ex):Ex:=match q with | none=>e | some c=>.mk op 0 ⟨#[]⟩ [c,e]
def notE (e:Ex):Ex:=.mk 4 0 ⟨#[]⟩ [e]
def hardI (kd:Int) (e:Ex):It:=.mk kd e ⟨#[]⟩ ⟨#[]⟩ [] [] [] [] []
def outI (x:It):It:=.mk x.kd zE x.nm ⟨#[]⟩ x.ws [] [] x.bf x.af
mutual
def exI (fs:List Fld) (q:Option Ex) (σ:Ex→Ex):It→List It
 | .mk kd e nm ix ws it el bf af =>
  if kd=4 then exL fs (some (und q 19 (σ e))) σ it++exL fs (some (und q 19 (notE (σ e)))) σ el
  else if kd=5 then (List.range (szI fs nm).toNat).flatMap (fun (k:Nat)=>exL fs q (fun a=>su ix (cst (k:Int)) (σ a)) it)
  else if kd=1∨kd=2 then [hardI kd (und q 21 (σ e))]
  else [outI (.mk kd e nm ix ws it el bf af)]
def exL (fs:List Fld) (q:Option Ex) (σ:Ex→Ex):List It→List It
 | []=>[]
 | a::r=>exI fs q σ a++exL fs q σ r
end
theorem exI_eq (fs:List Fld) (q:Option Ex) (σ:Ex→Ex) (x:It):exI fs q σ x =
  if x.kd=4 then exL fs (some (und q 19 (σ x.e))) σ x.it++exL fs (some (und q 19 (notE (σ x.e)))) σ x.el
  else if x.kd=5 then (List.range (szI fs x.nm).toNat).flatMap (fun (k:Nat)=>exL fs q (fun a=>su x.ix (cst (k:Int)) (σ a)) x.it)
  else if x.kd=1∨x.kd=2 then [hardI x.kd (und q 21 (σ x.e))]
  else [outI x]:=by cases x;rw [exI];rfl
theorem exL_nil (fs:List Fld) (q:Option Ex) (σ:Ex→Ex):exL fs q σ []=[]:=by rw [exL]
theorem exL_cons (fs:List Fld) (q:Option Ex) (σ:Ex→Ex) (a:It) (r:List It):exL fs q σ (a::r)=exI fs q σ a++exL fs q σ r:=by rw [exL]
def largeB (x:It):Bool:=!outK x.kd&&!decide (vld x.e=0)
def expS (fs:List Fld) (l:List It):List It × Int :=
 if checkI fs l=0 then
  (if 400<cntL fs l then ([],2) else if (exL fs none (fun a=>a) l).any largeB=true then ([],2) else (exL fs none (fun a=>a) l,0))
 else ([],checkI fs l)
def elV (a:ByteArray) (k:Nat):Ex:=.mk 2 0 (elmN a k) []
def sumE (a:ByteArray):Nat→Ex
 | 0=>elV a 0
 | k+1=>.mk 7 0 ⟨#[]⟩ [sumE a k,elV a (k+1)]
def choE (a:ByteArray) (i:Ex) (k:Nat):Nat→Ex
 | 0=>cst 0
 | m+1=>.mk 22 0 ⟨#[]⟩ [.mk 15 0 ⟨#[]⟩ [i,cst k],elV a k,choE a i (k+1) m]
def elmE (a:ByteArray) (n:Nat) (i:Ex):Ex:=if i.op=1 then (if i.n<n then elV a i.n.toNat else cst 0) else choE a i 0 n
def hdE (l:List Ex):Ex:=l.headD zE
mutual
def scM (fs:List Fld):Ex→Ex
 | .mk o n s ks=>if o=24 then sumE s ((szI fs s).toNat - 1) else if o=3 then elmE s (szI fs s).toNat (hdE (scMs fs ks)) else .mk o n s (scMs fs ks)
def scMs (fs:List Fld):List Ex→List Ex
 | []=>[]
 | a::r=>scM fs a::scMs fs r
end
theorem scMs_map (fs:List Fld) (ks:List Ex):scMs fs ks=ks.map (scM fs):=by
 induction ks with
 | nil=>rw [scMs];rfl
 | cons a r ih=>rw [scMs,ih];rfl
theorem scM_mk (fs:List Fld) (o n:Int) (s:ByteArray) (ks:List Ex):scM fs (.mk o n s ks)=if o=24 then sumE s ((szI fs s).toNat - 1) else if o=3 then elmE s (szI fs s).toNat (hdE (ks.map (scM fs))) else .mk o n s (ks.map (scM fs)):=by rw [scM,scMs_map]
mutual
def scB (fs:List Fld):Ex→Bool
 | .mk o n s ks=>scBs fs ks&&decide (vld (scM fs (.mk o n s ks))=0)
def scBs (fs:List Fld):List Ex→Bool
 | []=>true
 | a::r=>scB fs a&&scBs fs r
end
theorem scBs_all (fs:List Fld) (ks:List Ex):scBs fs ks=ks.all (scB fs):=by
 induction ks with
 | nil=>rw [scBs];rfl
 | cons a r ih=>rw [scBs,ih];rfl
theorem scB_mk (fs:List Fld) (o n:Int) (s:ByteArray) (ks:List Ex):scB fs (.mk o n s ks)=(ks.all (scB fs)&&decide (vld (scM fs (.mk o n s ks))=0)):=by rw [scB,scBs_all]
def scaS (fs:List Fld) (e:Ex):Ex × Int :=
 if vld e=0 then (if exE fs [] e=0 then (if scB fs e=true then (scM fs e,0) else (zE,2)) else (zE,exE fs [] e)) else (zE,vld e)
end ItM
namespace ExW
open Go Go.RowKit LexW LexM ExM
abbrev xv (o n:Int) (s:ByteArray) (a:Value):Value:=.agg #[.int .i64 o,.int .i64 n,.string s,a]
inductive ExAt (N:Nat) (w:World):Value→Ex→Prop where
 | mk {o n:Int} {s:ByteArray} {ks:List Ex} {p:Option Addr} {cap:Nat} (pl:Nat→Option Addr) (cl:Nat→Nat)
   (hs:s.size≤140737488351232) (hl:ks.length≤140737488351232) (hc:ks.length≤cap)
   (hp:0<ks.length→∃ b off,p=some ⟨b,off,none⟩∧b<N∧∀ i a,ks[i]? = some a →
    w.cell? ⟨b,off+i*4,none⟩=some (.int .i64 a.op)∧w.cell? ⟨b,off+i*4+1,none⟩=some (.int .i64 a.n)∧w.cell? ⟨b,off+i*4+2,none⟩=some (.string a.nm)∧w.cell? ⟨b,off+i*4+3,none⟩=some (.slice (pl i) a.args.length (cl i)))
   (hx:∀ i a,ks[i]? = some a→ExAt N w (xv a.op a.n a.nm (.slice (pl i) a.args.length (cl i))) a) :
   ExAt N w (xv o n s (.slice p ks.length cap)) (.mk o n s ks)
structure ArgsAt (N:Nat) (w:World) (p:Option Addr) (cap:Nat) (pl:Nat→Option Addr) (cl:Nat→Nat) (ks:List Ex):Prop where
 hl:ks.length≤140737488351232
 hc:ks.length≤cap
 hp:0<ks.length→∃ b off,p=some ⟨b,off,none⟩∧b<N∧∀ i a,ks[i]? = some a →
    w.cell? ⟨b,off+i*4,none⟩=some (.int .i64 a.op)∧w.cell? ⟨b,off+i*4+1,none⟩=some (.int .i64 a.n)∧w.cell? ⟨b,off+i*4+2,none⟩=some (.string a.nm)∧w.cell? ⟨b,off+i*4+3,none⟩=some (.slice (pl i) a.args.length (cl i))
 hx:∀ i a,ks[i]? = some a→ExAt N w (xv a.op a.n a.nm (.slice (pl i) a.args.length (cl i))) a
theorem ExAt.form {N:Nat} {w:World} {v:Value} {e:Ex} (h:ExAt N w v e):∃ p cap pl cl,v=xv e.op e.n e.nm (.slice p e.args.length cap)∧e.nm.size≤140737488351232∧ArgsAt N w p cap pl cl e.args:=by
 cases h with
 | mk pl cl hs hl hc hp hx=>exact⟨_,_,pl,cl,rfl,hs,hl,hc,hp,hx⟩
theorem ExAt.of {N:Nat} {w:World} {o n:Int} {s:ByteArray} {p:Option Addr} {cap:Nat} {pl:Nat→Option Addr} {cl:Nat→Nat} {ks:List Ex} (hs:s.size≤140737488351232) (h:ArgsAt N w p cap pl cl ks):ExAt N w (xv o n s (.slice p ks.length cap)) (.mk o n s ks) :=
 .mk pl cl hs h.hl h.hc h.hp h.hx
theorem ExAt.kept {N N':Nat} {w w':World} (hk:∀ b o,b<N→∀ v,w.cell? ⟨b,o,none⟩=some v→w'.cell? ⟨b,o,none⟩=some v) (hN:N≤N') {v:Value} {e:Ex} (h:ExAt N w v e):ExAt N' w' v e:=by
 induction h with
 | mk pl cl hs hl hc hp hx ih =>
  refine .mk pl cl hs hl hc (fun h0=>?_) (fun i a hi=>ih i a hi);obtain⟨b,off,e,hb,hcell⟩:=hp h0;exact⟨b,off,e,Nat.lt_of_lt_of_le hb hN,fun i a hi=>⟨hk _ _ hb _ (hcell i a hi).1,hk _ _ hb _ (hcell i a hi).2.1,hk _ _ hb _ (hcell i a hi).2.2.1,hk _ _ hb _ (hcell i a hi).2.2.2⟩⟩
theorem ExAt.under {N:Nat} {w w':World} (hb:Below N w w') {v:Value} {e:Ex} (h:ExAt N w v e):ExAt N w' v e :=
 h.kept (fun b o hlt _ hv=>(hb.cell (p:=⟨b,o,none⟩) hlt).trans hv) (Nat.le_refl _)
theorem ExAt.later {w w':World} (hb:Below w.heap.size w w') {v:Value} {e:Ex} (h:ExAt w.heap.size w v e):ExAt w'.heap.size w' v e :=
 h.kept (fun b o hlt _ hv=>(hb.cell (p:=⟨b,o,none⟩) hlt).trans hv) hb.size
theorem ExAt.wide {N N':Nat} {w:World} (hN:N≤N') {v:Value} {e:Ex} (h:ExAt N w v e):ExAt N' w v e:=h.kept (fun _ _ _ _ hv=>hv) hN
theorem ArgsAt.kept {N N':Nat} {w w':World} (hk:∀ b o,b<N→∀ v,w.cell? ⟨b,o,none⟩=some v→w'.cell? ⟨b,o,none⟩=some v) (hN:N≤N') {p:Option Addr} {cap:Nat} {pl:Nat→Option Addr} {cl:Nat→Nat} {ks:List Ex} (h:ArgsAt N w p cap pl cl ks):ArgsAt N' w' p cap pl cl ks:=by
 refine⟨h.hl,h.hc,fun h0=>?_,fun i a hi=>(h.hx i a hi).kept hk hN⟩;obtain⟨b,off,e,hb,hcell⟩:=h.hp h0;exact⟨b,off,e,Nat.lt_of_lt_of_le hb hN,fun i a hi=>⟨hk _ _ hb _ (hcell i a hi).1,hk _ _ hb _ (hcell i a hi).2.1,hk _ _ hb _ (hcell i a hi).2.2.1,hk _ _ hb _ (hcell i a hi).2.2.2⟩⟩
theorem ArgsAt.under {N:Nat} {w w':World} (hb:Below N w w') {p:Option Addr} {cap:Nat} {pl:Nat→Option Addr} {cl:Nat→Nat} {ks:List Ex} (h:ArgsAt N w p cap pl cl ks):ArgsAt N w' p cap pl cl ks :=
 h.kept (fun b o hlt _ hv=>(hb.cell (p:=⟨b,o,none⟩) hlt).trans hv) (Nat.le_refl _)
theorem ArgsAt.later {w w':World} (hb:Below w.heap.size w w') {p:Option Addr} {cap:Nat} {pl:Nat→Option Addr} {cl:Nat→Nat} {ks:List Ex} (h:ArgsAt w.heap.size w p cap pl cl ks):ArgsAt w'.heap.size w' p cap pl cl ks :=
 h.kept (fun b o hlt _ hv=>(hb.cell (p:=⟨b,o,none⟩) hlt).trans hv) hb.size
theorem ArgsAt.nil (N:Nat) (w:World) (p:Option Addr) (cap:Nat):ArgsAt N w p cap (fun _=>none) (fun _=>0) [] :=
 ⟨by simp,by simp,fun h=>by simp at h,fun i a hi=>by simp at hi⟩
theorem grown_of_below {w w':World} (h:Below w.heap.size w w'):w.grownBy w' none:=⟨h.os,h.tape,h.output,h.size,fun k hk _=>h.block k hk⟩
theorem below_of_grown {w w':World} (h:w.grownBy w' none):Below w.heap.size w w':=⟨h.os,h.tape,h.output,h.size,fun k hk=>h.block k hk (by simp)⟩
structure Nd where
 lv:Nat
 op:Int
 n:Int
 nm:ByteArray
 p:Option Addr
 k:Nat
 cap:Nat
 hl:lv≤100000
 hs:nm.size≤140737488351232
 hk:k≤140737488351232
def Nd.info (x:Nd):In:=⟨x.lv,x.op,x.n,x.nm,x.k⟩
abbrev Nd.enc (x:Nd):Array Value:=#[.int .i64 x.lv,xv x.op x.n x.nm (.slice x.p x.k x.cap)]
structure Keep (n₀ n₁:Nat) (W W':World):Prop where
 size:W.heap.size≤W'.heap.size
 blk:∀ b cs t fr,W.heap[b]? = some (.cells cs t fr)→(b<n₀∨(n₁≤b∧(t=43∨t=168)))→W'.heap[b]? = some (.cells cs t fr)
theorem Keep.refl (n₀ n₁:Nat) (W:World):Keep n₀ n₁ W W:=⟨Nat.le_refl _,fun _ _ _ _ h _=>h⟩
theorem Keep.trans {n₀ n₁:Nat} {A B C:World} (h:Keep n₀ n₁ A B) (k:Keep n₀ n₁ B C):Keep n₀ n₁ A C :=
 ⟨Nat.le_trans h.size k.size,fun b cs t fr hv hb=>k.blk b cs t fr (h.blk b cs t fr hv hb) hb⟩
theorem cell_lt {w:World} {b o:Nat} {v:Value} (h:w.cell? ⟨b,o,none⟩=some v):b<w.heap.size:=by
 rcases Nat.lt_or_ge b w.heap.size with g | g
 ·exact g
 ·simp only [World.cell?,Array.getElem?_eq_none g] at h;cases h
theorem cell_cells {w:World} {b o:Nat} {v:Value} (h:w.cell? ⟨b,o,none⟩=some v):∃ cs t fr,w.heap[b]? = some (.cells cs t fr):=by
 have hb:=cell_lt h;simp only [World.cell?,Array.getElem?_eq_getElem hb] at h ⊢;cases hx:w.heap[b] with
 | cells cs t fr=>exact⟨cs,t,fr,rfl⟩
 | _=>simp_all
theorem Keep.tree {n₀ n₁:Nat} {W W':World} (h:Keep n₀ n₁ W W') {b o:Nat} {v:Value} (hb:b<n₀) (hv:W.cell? ⟨b,o,none⟩=some v):W'.cell? ⟨b,o,none⟩=some v:=by
 obtain⟨cs,t,fr,hc⟩:=cell_cells hv;exact (World.cell?_of_block (w:=W) (by rw [h.blk b cs t fr hc (.inl hb),hc])).trans hv
theorem Keep.of_below {n₀ n₁:Nat} {W W':World} (h:Below W.heap.size W W'):Keep n₀ n₁ W W' :=
 ⟨h.size,fun b _ _ _ hv _=>(h.block b (Array.getElem?_eq_some_iff.1 hv).1).trans hv⟩
theorem Keep.grown {n₀ n₁:Nat} {W W':World} {row:Option Nat} (h:W.grownBy W' row) (hr:∀ b,row=some b→∀ cs t fr,W.heap[b]? = some (.cells cs t fr)→n₀≤b∧(b<n₁∨(t≠43∧t≠168))):Keep n₀ n₁ W W':=by
 refine⟨h.size,fun b cs t fr hv hb=>?_⟩;by_cases e:some b=row
 ·obtain⟨h1,h2⟩:=hr b e.symm cs t fr hv;rcases hb with hb | ⟨hb,rfl | rfl⟩
  ·omega
  ·rcases h2 with h2 | h2
   ·omega
   ·exact absurd rfl h2.1
  ·rcases h2 with h2 | h2
   ·omega
   ·exact absurd rfl h2.2
 ·exact (h.block b (Array.getElem?_eq_some_iff.1 hv).1 e).trans hv
theorem Keep.set {n₀ n₁:Nat} {W W':World} (h:Keep n₀ n₁ W W') {b:Nat} (h0:n₀≤b) (h1:b<n₁) (v:Value):Keep n₀ n₁ W (W'.setCell ⟨b,0,none⟩ v) :=
 h.trans (Keep.grown (grownBy_setCell' W' b v) fun b' e _ _ _ _=>by cases e;exact⟨h0,.inl h1⟩)
theorem Keep.putObj {n₀ n₁:Nat} (W:World) (l:Nat) (o o':Obj) (h:W.heap[l]? = some o) (hc:o.isCells=false):Keep n₀ n₁ W (W.putObj l o') :=
 Keep.grown (grownBy_putObj' W l o') fun b e cs t fr hb=>by
  cases e;rw [h] at hb;cases hb;cases hc
theorem ExAt.keep {n₀ n₁:Nat} {W W':World} (h:Keep n₀ n₁ W W') {v:Value} {e:Ex} (hx:ExAt n₀ W v e):ExAt n₀ W' v e :=
 hx.kept (fun _ _ hb _ hv=>h.tree hb hv) (Nat.le_refl _)
theorem ArgsAt.keep {n₀ n₁:Nat} {W W':World} (h:Keep n₀ n₁ W W') {p:Option Addr} {cap:Nat} {pl:Nat→Option Addr} {cl:Nat→Nat} {ks:List Ex} (hx:ArgsAt n₀ W p cap pl cl ks):ArgsAt n₀ W' p cap pl cl ks :=
 hx.kept (fun _ _ hb _ hv=>h.tree hb hv) (Nat.le_refl _)
end ExW
namespace LexW
open Go Go.RowKit NumM LexM
def atL (ys:List (List UInt8)) (j:Nat):List UInt8:=(ys[j]?).getD []
theorem atL_of {ys:List (List UInt8)} {j:Nat} {m:List UInt8} (h:ys[j]? = some m):atL ys j=m:=by unfold atL;rw [h];rfl
def tabF (ys:List (List UInt8)):Nat→Value:=fun j=>.string (bs (atL ys j))
theorem row_tab (w:World) (ys:List (List UInt8)) (t:TypeId):(w.alloc (.cells (ys.map fun y=>Value.string (bs y)).toArray t)).rowIs w.heap.size t ys.length (tabF ys):=by
 refine⟨_,heap_alloc_new _ _,by simp,fun i hi=>?_⟩;rw [List.getElem?_toArray,List.getElem?_map,List.getElem?_eq_getElem hi];show some (Value.string (bs ys[i]))=_;unfold tabF;rw [atL_of (List.getElem?_eq_getElem hi)]
def tTab (ys:List (List UInt8)) (w:World) (e:Ending) (w':World):Prop:=∃ g,e=.returned (.slice (some ⟨g,0,none⟩) ys.length ys.length)∧w'.rowIs g 9 ys.length (tabF ys)∧Below w.heap.size w w'
theorem keywords_any (w:World):Calls Tryz.prog 123 #[] w (tTab kws w):=by
 go_enter Tryz.func123,Tryz.ntmps123
 go_wp2;go_ret;exact⟨_,rfl,row_tab w kws _,(Below.refl _ _).alloc (Nat.le_refl _) _⟩
theorem has_any (ys:List (List UInt8)) (g:Nat) (s:ByteArray) (w:World) (hr:w.rowIs g 9 ys.length (tabF ys)) (hn:ys.length≤100) :
  Calls Tryz.prog 122 #[.slice (some ⟨g,0,none⟩) ys.length ys.length,.string s] w fun e w'=>e=.returned (.bool (decide (s.data.toList∈ys)))∧w=w':=by
 have HR:=Lh hr;clear hr;obtain⟨n,hnn⟩:∃ n,ys.length=n:=⟨_,rfl⟩;have HN:=Lh hnn;rw [hnn] at HR hn ⊢;clear hnn
 go_enter Tryz.func122,Tryz.ntmps122
 go_wp2;go_loop [5] (fun i=>∃ k:Nat,k≤n∧i=.int .i64 k∧Hid (∀ j,j<k→ys[j]?≠some s.data.toList)) (fun i=>n - (intOf i).toNat)
 case atStart=>exact⟨0,Nat.zero_le _,rfl,Lh fun j hj=>by omega⟩
 case round =>
  obtain⟨k,hk,rfl,NO⟩:=hrel;by_cases hlt:k<n
  ·obtain⟨m,hm⟩:∃ m,ys[k]? = some m:=⟨_,List.getElem?_eq_getElem (by rw [HN.out];exact hlt)⟩;have hck:=HR.out.cell hlt;unfold tabF at hck;rw [atL_of hm] at hck;have HM:=Lh hm;clear hm;by_cases e:m=s.data.toList
   ·have e1:((bs m).toList == s.toList)=true:=(by rw [Lib.toList_data,Lib.toList_data,e];simp);have FIN:Hid (true=decide (s.data.toList∈ys)):=Lh (by rw [eq_comm,decide_eq_true_eq,←e];exact List.mem_of_getElem? HM.out);obtain⟨y,hy⟩:∃ y,bs m=y:=⟨_,rfl⟩;rw [hy] at e1 hck;clear e hy;go_wp2;go_ret;exact⟨retb FIN.out,rfl⟩
   ·have e1:((bs m).toList == s.toList)=false:=(by rw [Lib.toList_data,Lib.toList_data];simpa using e);have NO2:Hid (∀ j,j<k+1→ys[j]?≠some s.data.toList):=Lh fun j hj x=>by
     by_cases hjk:j=k
     ·rw [hjk,HM.out] at x;exact e (Option.some.inj x)
     ·exact NO.out j (by omega) x
    obtain⟨y,hy⟩:∃ y,bs m=y:=⟨_,rfl⟩;rw [hy] at e1 hck;clear e hy;go_wp2;go_round
    case rel=>exact⟨k+1,by omega,by go_num,NO2⟩
    case measure=>simp [intOf];omega
  ·have FIN:Hid (false=decide (s.data.toList∈ys)):=Lh (by
    rw [eq_comm,decide_eq_false_iff_not];intro x;obtain⟨j,hj,he⟩:=List.mem_iff_getElem.1 x;exact NO.out j (by rw [HN.out] at hj;omega) (by rw [List.getElem?_eq_getElem hj,he]))
   go_wp2;go_ret;exact⟨retb FIN.out,rfl⟩
theorem kwR_any (s:ByteArray) (w:World):Calls Tryz.prog 79 #[.string s] w fun e w'=>e=.returned (.bool (isKw s.data.toList))∧Below w.heap.size w w':=by
 go_enter Tryz.func79,Tryz.ntmps79
 go_wp2_with (first
  | (go_at_call 123;((with_reducible refine (keywords_any _).mono ?_);rintro e w1 ⟨g,rfl,hr,hb⟩;have HR:=Lh hr;have HB:=Lh hb;clear hr hb))
  | (go_at_call 122;((with_reducible refine (has_any kws g s _ HR.out (by decide)).mono ?_);rintro e w' ⟨rfl,rfl⟩)))
 go_ret;exact⟨rfl,HB.out⟩
theorem inner_any (c:UInt8) (w:World):Calls Tryz.prog 80 #[.int .u8 (c.toNat:Int)] w fun e w'=>e=.returned (.bool (wrd c))∧w=w':=by
 have HC:=Lh (wrI_byte c);obtain⟨n,hn⟩:∃ n:Int,(c.toNat:Int)=n:=⟨_,rfl⟩;rw [hn] at HC ⊢;rw [←HC.out];clear hn HC
 go_enter Tryz.func80,Tryz.ntmps80
 go_wp2_with (first | (go_at_call 78;refine (smallR_any _ _).mono ?_;rintro e w' ⟨rfl,rfl⟩) | (go_at_call 124;refine (digitR_any _ _).mono ?_;rintro e w' ⟨rfl,rfl⟩))
 all_goals
  go_ret;exact⟨retb (by simp_all [wrI];try (intros;omega)),rfl⟩
end LexW
namespace ExW
open Go Go.RowKit LexW LexM ExM
theorem cases25 {o:Int} (h:1≤o∧o≤25):o=1∨o=2∨o=3∨o=4∨o=5∨o=6∨o=7∨o=8∨o=9∨o=10∨o=11∨o=12∨o=13∨o=14∨o=15∨o=16∨o=17∨o=18∨o=19∨o=20∨o=21∨o=22∨o=23∨o=24∨o=25:=by omega
theorem ar_out {o:Int} (h:¬ (1≤o∧o≤25)):arS o = -1:=by
 unfold arS;rw [if_neg (by omega),if_neg (by omega),if_neg (by omega),if_neg (by omega),if_neg (by omega)]
theorem arity_any (o:Int) (w:World):Calls Tryz.prog 173 #[.int .i64 o] w fun e w'=>e=.returned (.int .i64 (arS o))∧w=w':=by
 by_cases h:1≤o∧o≤25
 ·rcases cases25 h with rfl | rfl | rfl | rfl | rfl | rfl | rfl | rfl | rfl | rfl | rfl | rfl | rfl | rfl | rfl | rfl | rfl | rfl | rfl | rfl | rfl | rfl | rfl | rfl | rfl
  all_goals
   go_enter Tryz.func173,Tryz.ntmps173
   go_wp2;go_ret;exact⟨rfl,rfl⟩
 ·rw [ar_out h];have f1:(o == 1)=false:=(by rw [beq_eq_false_iff_ne];omega);have f2:(o == 2)=false:=(by rw [beq_eq_false_iff_ne];omega);have f3:(o == 3)=false:=(by rw [beq_eq_false_iff_ne];omega);have f4:(o == 4)=false:=(by rw [beq_eq_false_iff_ne];omega);have f5:(o == 5)=false:=(by rw [beq_eq_false_iff_ne];omega);have f6:(o == 6)=false:=(by rw [beq_eq_false_iff_ne];omega);have f7:(o == 7)=false:=(by rw [beq_eq_false_iff_ne];omega);have f8:(o == 8)=false:=(by rw [beq_eq_false_iff_ne];omega);have f9:(o == 9)=false:=(by rw [beq_eq_false_iff_ne];omega);have f10:(o == 10)=false:=(by rw [beq_eq_false_iff_ne];omega);have f11:(o == 11)=false:=(by rw [beq_eq_false_iff_ne];omega);have f12:(o == 12)=false:=(by rw [beq_eq_false_iff_ne];omega);have f13:(o == 13)=false:=(by rw [beq_eq_false_iff_ne];omega);have f14:(o == 14)=false:=(by rw [beq_eq_false_iff_ne];omega);have f15:(o == 15)=false:=(by rw [beq_eq_false_iff_ne];omega);have f16:(o == 16)=false:=(by rw [beq_eq_false_iff_ne];omega);have f17:(o == 17)=false:=(by rw [beq_eq_false_iff_ne];omega);have f18:(o == 18)=false:=(by rw [beq_eq_false_iff_ne];omega);have f19:(o == 19)=false:=(by rw [beq_eq_false_iff_ne];omega);have f20:(o == 20)=false:=(by rw [beq_eq_false_iff_ne];omega);have f21:(o == 21)=false:=(by rw [beq_eq_false_iff_ne];omega);have f22:(o == 22)=false:=(by rw [beq_eq_false_iff_ne];omega);have f23:(o == 23)=false:=(by rw [beq_eq_false_iff_ne];omega);have f24:(o == 24)=false:=(by rw [beq_eq_false_iff_ne];omega);have f25:(o == 25)=false:=(by rw [beq_eq_false_iff_ne];omega);have h1:decide (o<1)=true∨(decide (o<1)=false∧decide (25<o)=true):=by
   by_cases g:o<1
   ·exact .inl (by simpa using g)
   ·exact .inr ⟨by simpa using g,by simp;omega⟩
  clear h;rcases h1 with h1 | ⟨h1,h2⟩
  all_goals
   go_enter Tryz.func173,Tryz.ntmps173
   go_wp2;go_ret;exact⟨rfl,rfl⟩
theorem arityR_any (o:Int) (w:World):Calls Tryz.prog 177 #[.int .i64 o] w fun e w'=>e=.returned (.int .i64 (arS o))∧w=w':=by
 by_cases h:1≤o∧o≤25
 ·rcases cases25 h with rfl | rfl | rfl | rfl | rfl | rfl | rfl | rfl | rfl | rfl | rfl | rfl | rfl | rfl | rfl | rfl | rfl | rfl | rfl | rfl | rfl | rfl | rfl | rfl | rfl
  all_goals
   go_enter Tryz.func177,Tryz.ntmps177
   go_wp2;go_ret;exact⟨rfl,rfl⟩
 ·rw [ar_out h];have f1:(o == 1)=false:=(by rw [beq_eq_false_iff_ne];omega);have f2:(o == 2)=false:=(by rw [beq_eq_false_iff_ne];omega);have f3:(o == 3)=false:=(by rw [beq_eq_false_iff_ne];omega);have f4:(o == 4)=false:=(by rw [beq_eq_false_iff_ne];omega);have f5:(o == 5)=false:=(by rw [beq_eq_false_iff_ne];omega);have f6:(o == 6)=false:=(by rw [beq_eq_false_iff_ne];omega);have f7:(o == 7)=false:=(by rw [beq_eq_false_iff_ne];omega);have f8:(o == 8)=false:=(by rw [beq_eq_false_iff_ne];omega);have f9:(o == 9)=false:=(by rw [beq_eq_false_iff_ne];omega);have f10:(o == 10)=false:=(by rw [beq_eq_false_iff_ne];omega);have f11:(o == 11)=false:=(by rw [beq_eq_false_iff_ne];omega);have f12:(o == 12)=false:=(by rw [beq_eq_false_iff_ne];omega);have f13:(o == 13)=false:=(by rw [beq_eq_false_iff_ne];omega);have f14:(o == 14)=false:=(by rw [beq_eq_false_iff_ne];omega);have f15:(o == 15)=false:=(by rw [beq_eq_false_iff_ne];omega);have f16:(o == 16)=false:=(by rw [beq_eq_false_iff_ne];omega);have f17:(o == 17)=false:=(by rw [beq_eq_false_iff_ne];omega);have f18:(o == 18)=false:=(by rw [beq_eq_false_iff_ne];omega);have f19:(o == 19)=false:=(by rw [beq_eq_false_iff_ne];omega);have f20:(o == 20)=false:=(by rw [beq_eq_false_iff_ne];omega);have f21:(o == 21)=false:=(by rw [beq_eq_false_iff_ne];omega);have f22:(o == 22)=false:=(by rw [beq_eq_false_iff_ne];omega);have f23:(o == 23)=false:=(by rw [beq_eq_false_iff_ne];omega);have f24:(o == 24)=false:=(by rw [beq_eq_false_iff_ne];omega);have f25:(o == 25)=false:=(by rw [beq_eq_false_iff_ne];omega);have h1:decide (o<1)=true∨(decide (o<1)=false∧decide (25<o)=true):=by
   by_cases g:o<1
   ·exact .inl (by simpa using g)
   ·exact .inr ⟨by simpa using g,by simp;omega⟩
  clear h;rcases h1 with h1 | ⟨h1,h2⟩
  all_goals
   go_enter Tryz.func177,Tryz.ntmps177
   go_wp2;go_ret;exact⟨rfl,rfl⟩
end ExW
namespace ExW
open Go Go.RowKit Go.«Sort» NumM LexW LexM ExM
theorem reB {P:Program} {f:FuncId} {args:Array Value} {w:World} {v:Value} (C:∀ W,Below w.heap.size w W→Calls P f args W fun e w'=>e=.returned v∧Below W.heap.size W w') (d:Nat) (os:Array Obj) :
  Calls P f args (grow (redrawn w d) os) fun e w''=>e=.returned v∧∃ p:Regrown,w''=grow (redrawn w p.d) p.os :=
 Calls.regrown_of (C _ (below_regrown w d os))
end ExW
end Go.Proofs.YtpejflgdehioaaaGreatDoor
