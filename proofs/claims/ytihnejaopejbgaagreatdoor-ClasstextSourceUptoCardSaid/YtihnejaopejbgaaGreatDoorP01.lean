/-
  Laws that the card uses; no conditions beside those that each states (WordMath NumMath NumText LexMath LexBest ExMath EtMath EtParse).
-/
import Derived.Lib.Tables
import Derived.Lib.Hide
import Derived.Laws.BitsAllLaws
import Derived.IntWalk
import Derived.Laws.Bits64
import Derived.Lib.ItoaNum
import Derived.Lib.AtoiAll
import Derived.Lib.Strings
namespace Go.Proofs.YtihnejaopejbgaaGreatDoor
open Go
theorem Lh {p : Prop} (h : p) : RowKit.Hid p := h
namespace WordM
open Go
def bitN (x i:Nat):Nat:=x / 2 ^ i % 2
def sumN:Nat→Nat→Nat
 | 0,_=>0
 | n+1,x=>sumN n x+bitN x n
def wordN (a:Int):Nat:=(a % 65536).toNat
end WordM
namespace NumM
open Go Go.RowKit
def okI (x:Int):Bool:=decide (-9223372036854775808≤x∧x≤9223372036854775807)
def lim (x:Int):Int × Int:=if okI x then (x,0) else (0,3)
theorem okI_iff {x:Int}:okI x=true↔-9223372036854775808≤x∧x≤9223372036854775807:=by simp [okI]
theorem okI_no {x:Int}:okI x=false↔x < -9223372036854775808∨9223372036854775807<x:=by
 unfold okI;rw [decide_eq_false_iff_not];omega
theorem lim_ok {x:Int} (h:okI x=true):lim x=(x,0):=by simp [lim,h]
theorem lim_no {x:Int} (h:okI x=false):lim x=(0,3):=by simp [lim,h]
def dgt (c:UInt8):Bool:=decide (48≤c.toNat)&&decide (c.toNat≤57)
def minus (l:List UInt8):Bool:=l.head? == some 45
def tl (l:List UInt8):List UInt8:=if minus l then l.tail else l
def vl (acc:Nat) (l:List UInt8):Nat:=l.foldl (fun a c=>a*10+(c.toNat - 48)) acc
def isDec (l:List UInt8):Bool:=(tl l).all dgt&&!(tl l).isEmpty&&!((tl l).head? == some 48&&!(l == [48]))
def valS (l:List UInt8):Int:=if minus l then -(vl 0 (tl l):Int) else (vl 0 (tl l):Int)
def parseS (l:List UInt8):Int × Int:=if isDec l then lim (valS l) else (0,5)
theorem trim_eq (l:List UInt8):Lib.trimPrefix l [45]=tl l:=by
 unfold Lib.trimPrefix tl minus Lib.hasPrefix;cases l with
 | nil=>rfl
 | cons c r =>
  by_cases h:c=45
  ·subst h;simp
  ·simp [h,show ¬ 45=c from fun x=>h x.symm]
theorem vl_nil (acc:Nat):vl acc []=acc:=List.foldl_nil
theorem vl_cons (acc:Nat) (c:UInt8) (r:List UInt8):vl acc (c::r)=vl (acc*10+(c.toNat - 48)) r:=List.foldl_cons ..
theorem vl_snoc (l:List UInt8) (acc:Nat) (c:UInt8):vl acc (l++[c])=vl acc l*10+(c.toNat - 48):=by
 induction l generalizing acc with
 | nil =>
  rw [List.nil_append,vl_cons];simp only [vl_nil]
 | cons d r ih =>
  rw [List.cons_append];simp only [vl_cons];rw [ih]
theorem vl_ge (l:List UInt8) (acc:Nat):acc≤vl acc l:=by
 induction l generalizing acc with
 | nil=>exact Nat.le_refl _
 | cons d r ih =>
  have:=ih (acc*10+(d.toNat - 48));rw [vl_cons];omega
theorem dgt_iff {c:UInt8}:dgt c=true↔48≤c.toNat∧c.toNat≤57:=by simp [dgt]
theorem tl_length (l:List UInt8):(tl l).length≤l.length:=by
 unfold tl;split
 ·rw [List.length_tail];omega
 ·exact Nat.le_refl _
theorem dgt_at {d:ByteArray} {l:List UInt8} (hd:d.data.toList=tl l) (h:(tl l).all dgt=true) {k:Nat} (hk:k<d.size) :
  48≤d[k].toNat∧d[k].toNat≤57:=by
 rw [←hd] at h;have hm:d[k]∈d.data.toList:=by
  have:d.data.toList[k]'(by simpa using hk)=d[k]:=rfl;rw [←this];exact List.getElem_mem _
 exact dgt_iff.1 (List.all_eq_true.1 h _ hm)
theorem head_at {d:ByteArray} {l:List UInt8} (hd:d.data.toList=tl l) (hk:0<d.size):(tl l).head? = some d[0]:=by
 rw [←hd];have h:0<d.data.toList.length:=(by simpa using hk);rw [List.head?_eq_getElem?,List.getElem?_eq_getElem h];rfl
theorem str_no {s:ByteArray} (h:s.data.toList=[48]):(!s.toList == [48])=false:=by rw [Lib.toList_data,h];rfl
theorem str_yes {s:ByteArray} (h:s.data.toList≠[48]):(!s.toList == [48])=true:=by rw [Lib.toList_data];simpa using h
theorem isDec_of {l:List UInt8} (h1:(tl l).all dgt=true) (h2:tl l≠[]) (h3:¬ ((tl l).head? = some 48∧l≠[48])):isDec l=true:=by
 unfold isDec;rw [h1];by_cases a:(tl l).head? = some 48
 ·have b:l=[48]:=by
   apply Classical.byContradiction;intro x;exact h3 ⟨a,x⟩
  subst b;decide
 ·simp [h2,a]
theorem parseUint10_eq (l:List UInt8):∀ acc:Nat,l.all dgt=true→acc<18446744073709551616 →
  Lib.parseUint10 acc l=if vl acc l<18446744073709551616 then .ok (vl acc l) else .range:=by
 induction l with
 | nil=>intro acc _ ha;rw [vl_nil,if_pos ha];rfl
 | cons c r ih =>
  intro acc hd ha;simp only [List.all_cons,Bool.and_eq_true] at hd;have hc:=dgt_iff.1 hd.1;simp only [Lib.parseUint10,hc,and_self,if_true];rw [vl_cons];have hg:=vl_ge r (acc*10+(c.toNat - 48));by_cases h1:1844674407370955162≤acc
  ·rw [if_pos h1,if_neg (by omega)]
  ·rw [if_neg h1];by_cases h2:18446744073709551616≤acc*10+(c.toNat - 48)
   ·rw [if_pos h2,if_neg (by omega)]
   ·rw [if_neg h2];exact ih _ hd.2 (by omega)
theorem isDec_parts {l:List UInt8} (h:isDec l=true):(tl l).all dgt=true∧tl l≠[]∧((tl l).head? = some 48→l=[48]):=by
 unfold isDec at h;simp only [Bool.and_eq_true,Bool.not_eq_true',List.isEmpty_eq_false_iff,Bool.and_eq_false_iff,beq_eq_false_iff_ne,ne_eq,Bool.not_eq_false',beq_iff_eq] at h;exact⟨h.1.1,h.1.2,fun x=>by rcases h.2 with y | y;exact absurd x y;exact y⟩
theorem parseMag_eq {t:List UInt8} (h:t.all dgt=true) (hn:t≠[]) :
  Lib.parseMag t=if vl 0 t<18446744073709551616 then .ok (vl 0 t) else .range:=by
 unfold Lib.parseMag;rw [if_neg hn];exact parseUint10_eq t 0 h (by decide)
theorem atoi_eq {l:List UInt8} (h:isDec l=true):Lib.atoiAll l=if okI (valS l) then .ok (valS l) else .range:=by
 obtain⟨hd,hn,_⟩:=isDec_parts h;cases l with
 | nil=>exact absurd rfl hn
 | cons c r =>
  by_cases hm:c=45
  ·subst hm;have e:tl (45::r)=r:=rfl;have m:minus (45::r)=true:=rfl;rw [e] at hd hn;simp only [Lib.atoiAll,valS,m,e,if_true];rw [if_pos (by right;rfl),parseMag_eq hd hn];by_cases h1:vl 0 r<18446744073709551616
   ·rw [if_pos h1];by_cases h2:9223372036854775808<vl 0 r
    ·rw [show okI (-(vl 0 r:Int))=false from okI_no.2 (by omega)];simp [h2]
    ·rw [show okI (-(vl 0 r:Int))=true from okI_iff.2 (by omega)];simp [h2]
   ·rw [if_neg h1,show okI (-(vl 0 r:Int))=false from okI_no.2 (by omega)];rfl
  ·have e:tl (c::r)=c::r:=(by simp [tl,minus,hm]);have m:minus (c::r)=false:=(by simp [minus,hm]);have hc:¬ c.toNat=45:=(fun x=>hm (by rw [←UInt8.toNat_inj,x];rfl));rw [e] at hd hn;have hc2:=(dgt_iff.1 (by simp only [List.all_cons,Bool.and_eq_true] at hd;exact hd.1:dgt c=true)).1;simp only [Lib.atoiAll,valS,m,e,Bool.false_eq_true,if_false];rw [if_neg (by omega),parseMag_eq hd hn];by_cases h1:vl 0 (c::r)<18446744073709551616
   ·rw [if_pos h1];by_cases h2:9223372036854775808≤vl 0 (c::r)
    ·rw [show okI ((vl 0 (c::r):Nat):Int)=false from okI_no.2 (by omega)];simp [h2,hc]
    ·rw [show okI ((vl 0 (c::r):Nat):Int)=true from okI_iff.2 (by omega)];simp [h2,hc]
   ·rw [if_neg h1,show okI ((vl 0 (c::r):Nat):Int)=false from okI_no.2 (by omega)];rfl
theorem dec_small {u:Nat} (h:u<10):Lib.decDigits u=[UInt8.ofNat (48+u)]:=by rw [Lib.decDigits,dif_pos h]
theorem dec_big {u:Nat} (h:¬ u<10):Lib.decDigits u=Lib.decDigits (u / 10)++[UInt8.ofNat (48+u % 10)]:=by rw [Lib.decDigits,dif_neg h]
theorem dig_toNat {u:Nat} (h:u<10):(UInt8.ofNat (48+u)).toNat=48+u:=by
 rw [UInt8.toNat_ofNat'];omega
theorem dec_spec (u:Nat):(Lib.decDigits u).all dgt=true∧Lib.decDigits u≠[]∧vl 0 (Lib.decDigits u)=u∧((Lib.decDigits u).head? = some 48→u=0)∧(Lib.decDigits u).head?≠some 45:=by
 induction u using Nat.strongRecOn with
 | _ u ih =>
  by_cases h:u<10
  ·rw [dec_small h];refine⟨by simp [dgt];omega,by simp,by rw [vl_cons,vl_nil,dig_toNat h];omega,?_,?_⟩
   ·intro x;have x':UInt8.ofNat (48+u)=48:=(by simpa using x);have:=dig_toNat h;rw [x'] at this;have e:(48:UInt8).toNat=48:=rfl;omega
   ·intro x;have x':UInt8.ofNat (48+u)=45:=(by simpa using x);have:=dig_toNat h;rw [x'] at this;have e:(45:UInt8).toNat=45:=rfl;omega
  ·obtain⟨i1,i2,i3,i4,i5⟩:=ih (u / 10) (by omega);have hm:u % 10<10:=(by omega);have hh:(Lib.decDigits (u / 10)++[UInt8.ofNat (48+u % 10)]).head? = (Lib.decDigits (u / 10)).head?:=by
    cases g:Lib.decDigits (u / 10) with
    | nil=>exact absurd g i2
    | cons a b=>rfl
   rw [dec_big h];refine⟨?_,by simp,?_,?_,?_⟩
   ·rw [List.all_append,i1];simp [dgt];omega
   ·rw [vl_snoc,i3,dig_toNat hm];omega
   ·rw [hh];intro x;have:=i4 x;omega
   ·rw [hh];exact i5
theorem itoa_dec (n:Int):isDec (Lib.itoa n)=true∧valS (Lib.itoa n)=n:=by
 unfold Lib.itoa;by_cases h:n<0
 ·obtain⟨i1,i2,i3,i4,i5⟩:=dec_spec n.natAbs;rw [if_pos h];have e:tl (45::Lib.decDigits n.natAbs)=Lib.decDigits n.natAbs:=rfl;have m:minus (45::Lib.decDigits n.natAbs)=true:=rfl;have z:((Lib.decDigits n.natAbs).head? == some 48)=false:=by
   rw [beq_eq_false_iff_ne];intro x;have:=i4 x;omega
  refine⟨?_,?_⟩
  ·rw [isDec,e,i1,z];simp [i2]
  ·rw [valS,m,e,i3];simp;omega
 ·obtain⟨i1,i2,i3,i4,i5⟩:=dec_spec n.toNat;rw [if_neg h];have m:minus (Lib.decDigits n.toNat)=false:=(by rw [minus,beq_eq_false_iff_ne];exact i5);have e:tl (Lib.decDigits n.toNat)=Lib.decDigits n.toNat:=(by rw [tl,m];rfl);refine⟨?_,?_⟩
  ·rw [isDec,e,i1];by_cases z:(Lib.decDigits n.toNat).head? = some 48
   ·have d0:Lib.decDigits 0=[48]:=dec_small (by decide);rw [i4 z,d0];decide
   ·have z':((Lib.decDigits n.toNat).head? == some 48)=false:=(by rw [beq_eq_false_iff_ne];exact z);rw [z'];simp [i2]
  ·rw [valS,m,e,i3];simp;omega
end NumM
namespace LexM
open Go Go.RowKit NumM
def sml (c:UInt8):Bool:=decide (97≤c.toNat)&&decide (c.toNat≤122)
def capl (c:UInt8):Bool:=decide (65≤c.toNat)&&decide (c.toNat≤90)
def wrd (c:UInt8):Bool:=sml c||dgt c||capl c||decide (c.toNat=95)
def kws:List (List UInt8):=[[99,108,97,115,115],[101,120,116,101,110,100,115],[114,97,110,100],[114,97,110,100,99],[115,116,97,116,101],[99,111,110,115,116,114,97,105,110,116],[115,111,102,116],[100,105,115,116],[105,102],[101,108,115,101],[101,97,99,104],[105,110],[115,111,108,118,101],[98,101,102,111,114,101],[105,110,115,105,100,101],[112,114,111,112,101,114,116,121],[115,101,113],[97,110,100],[111,114],[110,111,116],[115,101,116],[104,111,108,100],[112,108,97,105,110],[114,101,112,101,97,116]]
def mks:List (List UInt8):=[[40],[41],[123],[125],[91],[93],[44],[59],[58],[46,46],[63],[61],[61,61],[33,61],[60],[60,61],[62],[62,61],[60,60],[62,62],[43],[45],[42],[38],[124],[94],[126],[33],[38,38],[124,124],[45,62],[61,62],[58,61],[58,47],[35,35],[64]]
def isKw (l:List UInt8):Bool:=decide (l∈kws)
def isMk (l:List UInt8):Bool:=decide (l∈mks)
structure Tk where
 kind:Int
 n:Int
 text:List UInt8
 line:Int
def zTk:Tk:=⟨0,0,[],0⟩
def Tk.at (t:Tk) (ln:Int):Tk:=⟨t.kind,t.n,t.text,ln⟩
def wordS (l:List UInt8):List UInt8:=l.takeWhile wrd
def markT (l:List UInt8):Tk × Int:=if isMk (l.take 2) then (⟨4,0,l.take 2,0⟩,0) else if isMk (l.take 1) then (⟨4,0,l.take 1,0⟩,0) else (zTk,5)
def nameT (t:List UInt8):Tk × Int:=if 16<t.length then (zTk,2) else (⟨if isKw t then 2 else 1,0,t,0⟩,0)
def numT (t:List UInt8):Tk × Int:=if (parseS t).2=0 then (if 2147483647<(parseS t).1 then (zTk,3) else (⟨3,(parseS t).1,t,0⟩,0)) else (zTk,(parseS t).2)
def firstS (l:List UInt8):Tk × Int:=match wordS l with | []=>markT l | c::r=>if sml c then nameT (c::r) else if dgt c then numT (c::r) else (zTk,5)
def cmt (l:List UInt8):Bool:=decide (l.take 2=[47,47])
def skipC (l:List UInt8):List UInt8:=l.dropWhile fun c=>decide (c.toNat≠10)
def lexA:Nat→List UInt8→Int→List Tk→List Tk × Int × Int
 | 0,_,_,acc=>(acc,0,0)
 | _+1,[],_,acc=>(acc,0,0)
 | f+1,c::r,ln,acc =>
  if c.toNat=10 then lexA f r (ln+1) acc
  else if c.toNat=32∨c.toNat=9 then lexA f r ln acc
  else if cmt (c::r) then lexA f (skipC (c::r)) ln acc
  else if (firstS (c::r)).2=0 then lexA f ((c::r).drop (firstS (c::r)).1.text.length) ln (acc++[(firstS (c::r)).1.at ln])
  else ([],ln,(firstS (c::r)).2)
def lex (l:List UInt8) (ln:Int) (acc:List Tk):List Tk × Int × Int:=lexA l.length l ln acc
theorem kw_facts:∀ k∈kws,k≠[]∧k.length≤16∧k.all sml=true:=by decide
theorem mk_facts:∀ m∈mks,m≠[]∧m.length≤2∧m.head?≠some 47∧(m.all fun c=>!wrd c&&decide (c.toNat≠10∧c.toNat≠32∧c.toNat≠9∧c.toNat<128))=true:=by decide
theorem mk_byte {m:List UInt8} (h:isMk m=true) {c:UInt8} (hc:c∈m):wrd c=false∧c.toNat≠10∧c.toNat≠32∧c.toNat≠9∧c.toNat<128:=by
 have:=List.all_eq_true.1 (mk_facts m (of_decide_eq_true h)).2.2.2 c hc
 simpa using this
theorem wrd_facts {c:UInt8} (h:wrd c=true):c.toNat≠10∧c.toNat≠32∧c.toNat≠9∧c.toNat<128∧c.toNat≠47:=by
 simp [wrd,sml,dgt,capl] at h;omega
theorem wrd_sml {c:UInt8} (h:sml c=true):wrd c=true:=by simp [wrd,h]
theorem wrd_dgt {c:UInt8} (h:dgt c=true):wrd c=true:=by simp [wrd,h]
theorem not_mk {l:List UInt8} {c:UInt8} (h:c∈l) (hc:wrd c=true∨c.toNat=10∨c.toNat=32∨c.toNat=9∨128≤c.toNat):isMk l=false:=by
 cases e:isMk l
 ·rfl
 ·have f:=mk_byte e h;rcases hc with x | x | x | x | x
  ·rw [x] at f;exact absurd f.1 (by decide)
  ·exact absurd x f.2.1
  ·exact absurd x f.2.2.1
  ·exact absurd x f.2.2.2.1
  ·omega
theorem mk_nil:isMk []=false:=by decide
theorem kw_byte {k:List UInt8} (h:isKw k=true):k≠[]∧k.length≤16∧k.all sml=true:=kw_facts k (of_decide_eq_true h)
theorem first_mark {l:List UInt8} (h:wordS l=[]):firstS l=markT l:=by unfold firstS;rw [h]
theorem first_word {l:List UInt8} {c:UInt8} {r:List UInt8} (h:wordS l=c::r):firstS l=if sml c then nameT (c::r) else if dgt c then numT (c::r) else (zTk,5):=by unfold firstS;rw [h]
theorem word_pre (l:List UInt8):wordS l=l.take (wordS l).length:=by
 unfold wordS;have h:l.takeWhile wrd <+: l:=List.takeWhile_prefix wrd;exact (List.prefix_iff_eq_take.1 h)
theorem word_all (l:List UInt8):∀ c∈wordS l,wrd c=true:=fun c hc=>by
 have:=List.all_takeWhile (p:=wrd) (l:=l);exact List.all_eq_true.1 this c hc
structure Good (l:List UInt8) (t:Tk):Prop where
 ne:t.text≠[]
 pre:t.text=l.take t.text.length
 byte:∀ c∈t.text,c.toNat≠10∧c.toNat≠32∧c.toNat≠9∧c.toNat<128
 head:t.text.head?≠some 47
 line:t.line=0
theorem good_mark {l:List UInt8} (h:(markT l).2=0):Good l (markT l).1:=by
 unfold markT at h ⊢;by_cases h2:isMk (l.take 2)=true
 ·rw [if_pos h2];have f:=mk_facts _ (of_decide_eq_true h2);refine⟨f.1,?_,fun c hc=>(mk_byte h2 hc).2,f.2.2.1,rfl⟩;rw [List.length_take];by_cases hl:2≤l.length
  ·rw [Nat.min_eq_left hl]
  ·rw [Nat.min_eq_right (by omega),List.take_of_length_le (by omega),List.take_of_length_le (by omega)]
 ·rw [if_neg h2] at h ⊢;by_cases h1:isMk (l.take 1)=true
  ·rw [if_pos h1];have f:=mk_facts _ (of_decide_eq_true h1);refine⟨f.1,?_,fun c hc=>(mk_byte h1 hc).2,f.2.2.1,rfl⟩;rw [List.length_take];by_cases hl:1≤l.length
   ·rw [Nat.min_eq_left hl]
   ·rw [Nat.min_eq_right (by omega),List.take_of_length_le (by omega),List.take_of_length_le (by omega)]
  ·rw [if_neg h1] at h;simp at h
theorem good_word {l:List UInt8} {c:UInt8} {r:List UInt8} (h:wordS l=c::r) {t:Tk} (ht:t.text=c::r) (hl:t.line=0):Good l t:=by
 have hall:=word_all l;have hp:=word_pre l;rw [h] at hall hp;refine⟨by rw [ht];simp,by rw [ht];exact hp,fun d hd=>?_,?_,hl⟩
 ·rw [ht] at hd;have:=wrd_facts (hall d hd);exact⟨this.1,this.2.1,this.2.2.1,this.2.2.2.1⟩
 ·rw [ht];intro e;have e2:c=47:=(by simpa using e);exact (wrd_facts (hall c (by simp))).2.2.2.2 (by rw [e2];rfl)
theorem first_good {l:List UInt8} (h:(firstS l).2=0):Good l (firstS l).1:=by
 cases hw:wordS l with
 | nil =>
  rw [first_mark hw] at h ⊢;exact good_mark h
 | cons c r =>
  have e:=first_word hw;rw [e] at h ⊢;by_cases hs:sml c=true
  ·rw [if_pos hs] at h ⊢;unfold nameT at h ⊢;by_cases h16:16<(c::r).length
   ·rw [if_pos h16] at h;simp at h
   ·rw [if_neg h16];exact good_word hw rfl rfl
  ·rw [if_neg hs] at h ⊢;by_cases hd:dgt c=true
   ·rw [if_pos hd] at h ⊢;unfold numT at h ⊢;by_cases hp:(parseS (c::r)).2=0
    ·rw [if_pos hp] at h ⊢;by_cases hm:2147483647<(parseS (c::r)).1
     ·rw [if_pos hm] at h;simp at h
     ·rw [if_neg hm];exact good_word hw rfl rfl
    ·rw [if_neg hp] at h;exact absurd h hp
   ·rw [if_neg hd] at h;simp at h
theorem skipC_le (l:List UInt8):(skipC l).length≤l.length:=(List.dropWhile_suffix _).length_le
theorem skipC_cons {c:UInt8} (r:List UInt8) (h:c.toNat≠10):skipC (c::r)=skipC r:=by unfold skipC;rw [List.dropWhile_cons];simp [h]
theorem cmt_head {c:UInt8} {r:List UInt8} (h:cmt (c::r)=true):c.toNat=47:=by
 have:=of_decide_eq_true h;cases r with
 | nil=>simp at this
 | cons d r=>simp at this;rw [this.1];rfl
theorem lexA_fuel:∀ (f g:Nat) (l:List UInt8),l.length≤f→l.length≤g→∀ ln acc,lexA f l ln acc=lexA g l ln acc:=by
 intro f;induction f with
 | zero =>
  intro g l hf hg ln acc;obtain rfl:l=[]:=List.length_eq_zero_iff.1 (by omega);cases g<;>rfl
 | succ f ih =>
  intro g l hf hg ln acc;cases l with
  | nil=>cases g<;>rfl
  | cons c r =>
   obtain⟨g',rfl⟩:∃ g',g=g'+1:=⟨g - 1,by simp at hg;omega⟩;simp only [List.length_cons] at hf hg;simp only [lexA];by_cases h1:c.toNat=10
   ·rw [if_pos h1,if_pos h1];exact ih g' r (by omega) (by omega) _ _
   rw [if_neg h1,if_neg h1];by_cases h2:c.toNat=32∨c.toNat=9
   ·rw [if_pos h2,if_pos h2];exact ih g' r (by omega) (by omega) _ _
   rw [if_neg h2,if_neg h2];by_cases h3:cmt (c::r)=true
   ·rw [if_pos h3,if_pos h3,skipC_cons r h1];have:=skipC_le r;exact ih g' _ (by omega) (by omega) _ _
   rw [if_neg h3,if_neg h3];by_cases h4:(firstS (c::r)).2=0
   ·rw [if_pos h4,if_pos h4];have hg:=(first_good h4).ne;have:0<(firstS (c::r)).1.text.length:=List.length_pos_iff.2 hg;exact ih g' _ (by rw [List.length_drop,List.length_cons];omega) (by rw [List.length_drop,List.length_cons];omega) _ _
   rw [if_neg h4,if_neg h4]
theorem lexA_lex {f:Nat} {l:List UInt8} (h:l.length≤f) (ln:Int) (acc:List Tk):lexA f l ln acc=lex l ln acc:=lexA_fuel f _ l h (Nat.le_refl _) ln acc
theorem lex_blank {c:UInt8} (r:List UInt8) (ln:Int) (acc:List Tk) (h:c.toNat=32∨c.toNat=9):lex (c::r) ln acc=lex r ln acc:=by
 rw [lex,List.length_cons,lexA,if_neg (by omega),if_pos h];rfl
theorem lex_tok {c:UInt8} (r:List UInt8) (ln:Int) (acc:List Tk) (h1:c.toNat≠10) (h2:¬ (c.toNat=32∨c.toNat=9)) (h3:cmt (c::r)=false) (h:(firstS (c::r)).2=0) :
  lex (c::r) ln acc=lex ((c::r).drop (firstS (c::r)).1.text.length) ln (acc++[(firstS (c::r)).1.at ln]):=by
 rw [lex,List.length_cons,lexA,if_neg h1,if_neg h2,if_neg (by rw [h3];decide),if_pos h,lexA_lex];have:0<(firstS (c::r)).1.text.length:=List.length_pos_iff.2 (first_good h).ne;rw [List.length_drop,List.length_cons];omega
theorem word_app (l:List UInt8) {c:UInt8} (r:List UInt8) (hc:wrd c=false):wordS (l++c::r)=wordS l:=by
 unfold wordS;rw [List.takeWhile_append];split
 ·rename_i h;rw [List.takeWhile_cons,hc];simp only [Bool.false_eq_true,if_false,List.append_nil];have hp:l.takeWhile wrd <+: l:=List.takeWhile_prefix wrd;exact (hp.eq_of_length h).symm
 ·rfl
def validS (t:Tk):Bool:=decide ((firstS t.text).2=0)&&(decide ((firstS t.text).1.kind=t.kind)&&(decide ((firstS t.text).1.n=t.n)&&decide ((firstS t.text).1.text=t.text)))
theorem valid_iff {t:Tk}:validS t=true↔firstS t.text=(⟨t.kind,t.n,t.text,0⟩,0):=by
 constructor
 ·intro h;simp only [validS,Bool.and_eq_true,decide_eq_true_eq] at h;obtain⟨h0,h1,h2,h3⟩:=h;have h4:=(first_good h0).line;rcases hf:firstS t.text with ⟨⟨k,n,x,ln⟩,e⟩
  rw [hf] at h0 h1 h2 h3 h4;simp only at h0 h1 h2 h3 h4;rw [h0,h1,h2,h3,h4]
 ·intro h;simp [validS,h]
def joinT:List Tk→List UInt8
 | []=>[]
 | [t]=>t.text
 | t::u::r=>t.text++32::joinT (u::r)
def nmB (l:List UInt8):Bool:=match l with | []=>false | c::r=>decide (r.length+1≤16)&&(sml c&&(!isKw (c::r)&&(c::r).all wrd))
theorem wordS_all {l:List UInt8} (h:l.all wrd=true):wordS l=l:=by
 have:=List.takeWhile_append_of_pos (p:=wrd) (l₁:=l) (l₂:=[]) (fun a ha=>List.all_eq_true.1 h a ha)
 simpa [wordS] using this
theorem name_iff (l:List UInt8):validS ⟨1,0,l,0⟩=nmB l:=by
 rw [Bool.eq_iff_iff,valid_iff];constructor
 ·intro h;have h0:(firstS l).2=0:=(by show (firstS (Tk.text ⟨1,0,l,0⟩)).2=0;rw [h]);have hf:firstS l=(⟨1,0,l,0⟩,0):=h;rcases hw:wordS l with _ | ⟨c,r⟩
  ·rw [first_mark hw] at hf;unfold markT at hf;split at hf
   ·simp at hf
   ·split at hf
    ·simp at hf
    ·simp at hf
  ·rw [first_word hw] at hf;by_cases hs:sml c=true
   ·rw [if_pos hs] at hf;unfold nameT at hf;by_cases h16:16<(c::r).length
    ·rw [if_pos h16] at hf;simp at hf
    ·rw [if_neg h16] at hf;have ht:c::r=l:=(by have:=congrArg (fun x=>x.1.text) hf;exact this);have hk:isKw (c::r)=false:=by
      have:=congrArg (fun x=>x.1.kind) hf;cases e:isKw (c::r)
      ·rfl
      ·rw [e] at this;simp at this
     have hall:(c::r).all wrd=true:=by
      rw [List.all_eq_true];intro x hx;rw [←hw] at hx;exact word_all l x hx
     rw [←ht];simp only [nmB,hs,hk,hall,Bool.not_false,Bool.and_true];simp at h16 ⊢;omega
   ·rw [if_neg hs] at hf;unfold numT at hf;split at hf
    ·split at hf
     ·split at hf
      ·simp at hf
      ·simp at hf
     ·have:=congrArg (fun x=>x.1.kind) hf;simp [zTk] at this
    ·simp at hf
 ·intro h;cases l with
  | nil=>cases h
  | cons c r =>
   simp only [nmB,Bool.and_eq_true,decide_eq_true_eq,Bool.not_eq_true'] at h;obtain⟨h1,h2,h3,h4⟩:=h;have hw:wordS (c::r)=c::r:=wordS_all h4;show firstS (c::r)=_;rw [first_word hw,if_pos h2,nameT,if_neg (by rw [List.length_cons];omega),h3];rfl
theorem small_all {k:List UInt8} (h:k.all sml=true):k.all wrd=true:=by
 rw [List.all_eq_true] at h ⊢;intro c hc;exact wrd_sml (h c hc)
theorem kw_first {l:List UInt8} (h:isKw l=true):firstS l=(⟨2,0,l,0⟩,0):=by
 obtain⟨h1,h2,h3⟩:=kw_byte h;have hw:=wordS_all (small_all h3);cases l with
 | nil=>exact absurd rfl h1
 | cons c r =>
  have hc:sml c=true:=List.all_eq_true.1 h3 c (by simp);rw [first_word hw,if_pos hc,nameT,if_neg (by omega),h];rfl
theorem mk_first {l:List UInt8} (h:isMk l=true):firstS l=(⟨4,0,l,0⟩,0):=by
 have f:=mk_facts l (of_decide_eq_true h);have hw:wordS l=[]:=by
  cases l with
  | nil=>rfl
  | cons c r =>
   have hc:=(mk_byte h (c:=c) (by simp)).1;unfold wordS;rw [List.takeWhile_cons,hc];rfl
 have e:l.take 2=l:=List.take_of_length_le f.2.1;rw [first_mark hw,markT,e,if_pos h]
theorem itoa_first {n:Int} (h0:0≤n) (h1:n≤2147483647):firstS (Lib.itoa n)=(⟨3,n,Lib.itoa n,0⟩,0):=by
 obtain⟨hd,hv⟩:=itoa_dec n;have hp:parseS (Lib.itoa n)=(n,0):=(by rw [parseS,if_pos hd,hv,lim_ok (okI_iff.2 (by omega))]);have hi:Lib.itoa n=Lib.decDigits n.toNat:=(by unfold Lib.itoa;rw [if_neg (by omega)]);obtain⟨i1,i2,_,_,_⟩:=dec_spec n.toNat;rw [←hi] at i1 i2;have hall:(Lib.itoa n).all wrd=true:=by
  rw [List.all_eq_true] at i1 ⊢;intro c hc;exact wrd_dgt (i1 c hc)
 have hw:=wordS_all hall;rcases he:Lib.itoa n with _ | ⟨c,r⟩
 ·exact absurd he i2
 ·rw [he] at hw i1 hp;have hc:dgt c=true:=List.all_eq_true.1 i1 c (by simp);have hs:sml c=false:=by
   have:=dgt_iff.1 hc;simp [sml];omega
  rw [first_word hw,hs,if_neg (by decide),if_pos hc,numT,hp,if_pos rfl,if_neg (by simp only;omega)]
end LexM
namespace ExM
open Go WordM LexM
inductive Ex where
 | mk (op n:Int) (nm:ByteArray) (args:List Ex)
def Ex.op:Ex→Int | .mk o _ _ _=>o
def Ex.n:Ex→Int | .mk _ n _ _=>n
def Ex.nm:Ex→ByteArray | .mk _ _ s _=>s
def Ex.args:Ex→List Ex | .mk _ _ _ l=>l
theorem Ex.eta:∀ e:Ex,e=.mk e.op e.n e.nm e.args | .mk _ _ _ _=>rfl
theorem Ex.ind {P:Ex→Prop} (h:∀ o n s l,(∀ a∈l,P a)→P (.mk o n s l)) (e:Ex):P e :=
 Ex.rec (motive_1:=P) (motive_2:=fun l=>∀ a∈l,P a) (fun o n s l ih=>h o n s l ih) (fun _ ha=>nomatch ha)
  (fun _ _ hb hr a ha=>(List.mem_cons.1 ha).elim (fun e=>e ▸ hb) (fun g=>hr a g)) e
structure In where
 lv:Nat
 op:Int
 n:Int
 nm:ByteArray
 k:Nat
mutual
def pre (l:Nat):Ex→List In
 | .mk o n s ks=>⟨l,o,n,s,ks.length⟩::pres (l+1) ks
def pres (l:Nat):List Ex→List In
 | []=>[]
 | a::r=>pre l a++pres l r
end
theorem pre_mk (l:Nat) (o n:Int) (s:ByteArray) (ks:List Ex):pre l (.mk o n s ks)=⟨l,o,n,s,ks.length⟩::pres (l+1) ks:=by rw [pre]
theorem pres_nil (l:Nat):pres l []=[]:=by rw [pres]
theorem pres_cons (l:Nat) (a:Ex) (r:List Ex):pres l (a::r)=pre l a++pres l r:=by rw [pres]
theorem pres_append (l:Nat) (a b:List Ex):pres l (a++b)=pres l a++pres l b:=by
 induction a with
 | nil=>simp [pres_nil]
 | cons x r ih=>rw [List.cons_append,pres_cons,pres_cons,ih,List.append_assoc]
theorem pres_take {l k:Nat} {ks:List Ex} {a:Ex} (h:ks[k]? = some a):pres l (ks.take (k+1))=pres l (ks.take k)++pre l a:=by
 obtain⟨hk,he⟩:=List.getElem?_eq_some_iff.1 h;rw [List.take_succ_eq_append_getElem hk,pres_append,he,pres_cons,pres_nil,List.append_nil]
theorem mem_pres {l:Nat} {ks:List Ex} {x:In}:x∈pres l ks↔∃ a∈ks,x∈pre l a:=by
 induction ks with
 | nil=>simp [pres_nil]
 | cons b r ih=>rw [pres_cons,List.mem_append,ih];simp
mutual
def sz:Ex→Nat
 | .mk _ _ _ ks=>szs ks+1
def szs:List Ex→Nat
 | []=>0
 | a::r=>sz a+szs r
def dep:Ex→Nat
 | .mk _ _ _ ks=>deps ks+1
def deps:List Ex→Nat
 | []=>0
 | a::r=>max (dep a) (deps r)
end
theorem sz_mk (o n:Int) (s:ByteArray) (ks:List Ex):sz (.mk o n s ks)=szs ks+1:=by rw [sz]
theorem szs_nil:szs []=0:=by rw [szs]
theorem szs_cons (a:Ex) (r:List Ex):szs (a::r)=sz a+szs r:=by rw [szs]
theorem dep_mk (o n:Int) (s:ByteArray) (ks:List Ex):dep (.mk o n s ks)=deps ks+1:=by rw [dep]
theorem deps_nil:deps []=0:=by rw [deps]
theorem deps_cons (a:Ex) (r:List Ex):deps (a::r)=max (dep a) (deps r):=by rw [deps]
theorem sz_pos (e:Ex):0<sz e:=by cases e;rw [sz_mk];omega
theorem szs_append (a b:List Ex):szs (a++b)=szs a+szs b:=by
 induction a with
 | nil=>simp [szs_nil]
 | cons x r ih=>rw [List.cons_append,szs_cons,szs_cons,ih];omega
theorem szs_take {k:Nat} {ks:List Ex} {a:Ex} (h:ks[k]? = some a):szs (ks.take (k+1))=szs (ks.take k)+sz a:=by
 obtain⟨hk,he⟩:=List.getElem?_eq_some_iff.1 h;rw [List.take_succ_eq_append_getElem hk,szs_append,he,szs_cons,szs_nil];omega
theorem szs_take_le (k:Nat) (ks:List Ex):szs (ks.take k)≤szs ks:=by
 have:=szs_append (ks.take k) (ks.drop k);rw [List.take_append_drop] at this;omega
theorem len_szs (ks:List Ex):ks.length≤szs ks:=by
 induction ks with
 | nil=>simp
 | cons a r ih=>rw [szs_cons];have:=sz_pos a;simp;omega
theorem sz_mem {ks:List Ex} {a:Ex} (h:a∈ks):sz a≤szs ks:=by
 induction ks with
 | nil=>cases h
 | cons b r ih =>
  rw [szs_cons];rcases List.mem_cons.1 h with rfl | h
  ·omega
  ·have:=ih h;omega
theorem pres_len {l:Nat} {ks:List Ex} (h:∀ a∈ks,(pre l a).length=sz a):(pres l ks).length=szs ks:=by
 induction ks with
 | nil=>rw [pres_nil,szs_nil];rfl
 | cons b r ih=>rw [pres_cons,szs_cons,List.length_append,h b (by simp),ih (fun a ha=>h a (by simp [ha]))]
theorem pre_len (e:Ex):∀ l,(pre l e).length=sz e:=by
 induction e using Ex.ind with
 | h o n s ks ih=>intro l;rw [pre_mk,sz_mk,List.length_cons,pres_len (fun a ha=>ih a ha _)]
def mxL (L:List In):Nat:=L.foldl (fun d x=>max d x.lv) 0
theorem mx_fold (L:List In):∀ d,L.foldl (fun d x=>max d x.lv) d=max d (mxL L):=by
 unfold mxL;induction L with
 | nil=>intro d;simp
 | cons x r ih=>intro d;rw [List.foldl_cons,List.foldl_cons,ih,ih (max 0 x.lv)];omega
theorem mx_append (A B:List In):mxL (A++B)=max (mxL A) (mxL B):=by
 unfold mxL;rw [List.foldl_append,mx_fold B];rfl
theorem mx_one (x:In):mxL [x]=x.lv:=by simp [mxL]
theorem mx_cons (x:In) (A:List In):mxL (x::A)=max x.lv (mxL A):=by
 rw [show x::A=[x]++A from rfl,mx_append,mx_one]
theorem mx_nil:mxL []=0:=rfl
theorem pres_mx {l:Nat} {ks:List Ex} (hl:0<ks.length) (h:∀ a∈ks,mxL (pre l a)+1=l+dep a):mxL (pres l ks)+1=l+deps ks:=by
 induction ks with
 | nil=>simp at hl
 | cons b r ih =>
  rw [pres_cons,deps_cons,mx_append];have hb:=h b (by simp);cases r with
  | nil=>rw [pres_nil,deps_nil,mx_nil];omega
  | cons c r=>have:=ih (by simp) (fun a ha=>h a (by simp [ha]));omega
theorem pre_mx (e:Ex):∀ l,mxL (pre l e)+1=l+dep e:=by
 induction e using Ex.ind with
 | h o n s ks ih =>
  intro l;rw [pre_mk,dep_mk,mx_cons];cases ks with
  | nil=>rw [pres_nil,deps_nil,mx_nil];simp
  | cons b r=>have:=pres_mx (l:=l+1) (ks:=b::r) (by simp) (fun a ha=>ih a ha _);simp only;omega
def isVr (o:Int):Bool:=decide (o=2)
def isAr (o:Int):Bool:=decide (o=3)||decide (o=24)
def arS (o:Int):Int :=
 if o=1∨o=2∨o=24 then 0 else if o=3∨o=4∨o=5∨o=6∨o=25 then 1 else if o=22 then 3 else if o=23 then -1 else if 1≤o∧o≤25 then 2 else -1
def takesS (o:Int) (k:Nat):Bool:=if o=23 then decide (3≤k∧k≤33∧k % 2=1) else decide ((k:Int)=arS o)
def greatS (o:Int):Int:=if o=1 then 65535 else 0
def elmB (l:List UInt8):Bool :=
 match l.reverse with
 | c::d::b::r=>decide (c=93)&&(decide (b=91)&&(decide (48≤d.toNat∧d.toNat≤55)&&nmB r.reverse))
 | _=>false
def varB (l:List UInt8):Bool:=elmB l||nmB l
def badA (x:In):Bool:=!takesS x.op x.k||(decide (x.n<0)||(decide (greatS x.op<x.n)||(!decide (x.nm.size=0)&&(!isVr x.op&&!isAr x.op))))
def badN (x:In):Bool:=(isVr x.op&&!varB x.nm.data.toList)||(isAr x.op&&!nmB x.nm.data.toList)
def fltS (x:In):Int:=if badA x=true then 1 else if badN x=true then 7 else 0
def fstE (L:List In):Int:=L.foldl (fun f x=>if f=0 then fltS x else f) 0
theorem fst_snoc (L:List In) (x:In):fstE (L++[x])=if fstE L=0 then fltS x else fstE L:=by
 unfold fstE;rw [List.foldl_append];rfl
theorem fst_append (A B:List In):fstE (A++B)=if fstE A=0 then fstE B else fstE A:=by
 have:∀ (B:List In) (f:Int),B.foldl (fun f x=>if f=0 then fltS x else f) f=if f=0 then fstE B else f:=by
  intro B;unfold fstE;induction B with
  | nil=>intro f;simp
  | cons y r ih =>
   intro f;rw [List.foldl_cons,List.foldl_cons,ih];by_cases h:f=0
   ·subst h;simp only [if_true];rw [ih (fltS y)]
   ·simp only [if_neg h]
 unfold fstE at *;rw [List.foldl_append,this]
theorem fst_zero (L:List In):fstE L=0↔∀ x∈L,fltS x=0:=by
 induction L with
 | nil=>simp [fstE]
 | cons y r ih =>
  rw [show y::r=[y]++r from rfl,fst_append];have h1:fstE [y]=fltS y:=(by simp [fstE]);rw [h1];by_cases h:fltS y=0
  ·rw [if_pos h,ih];simp [h]
  ·rw [if_neg h];simp [h]
def vldL (L:List In):Int:=if fstE L=0 then (if 24<mxL L∨400<L.length then 2 else 0) else fstE L
theorem flt_lv (l m:Nat) (o n:Int) (s:ByteArray) (k:Nat):fltS ⟨l,o,n,s,k⟩=fltS ⟨m,o,n,s,k⟩:=rfl
theorem flt_range (x:In):fltS x=0∨fltS x=1∨fltS x=7:=by
 unfold fltS;split
 ·simp
 ·split<;>simp
def Ok (e:Ex):Prop:=∀ x∈pre 0 e,fltS x=0
theorem pres_lv {l:Nat} {ks:List Ex} (m:Nat) (h:∀ a∈ks,(∀ x∈pre l a,fltS x=0)→∀ x∈pre m a,fltS x=0) (g:∀ x∈pres l ks,fltS x=0):∀ x∈pres m ks,fltS x=0:=by
 intro x hx;obtain⟨a,ha,hxa⟩:=mem_pres.1 hx;exact h a ha (fun y hy=>g y (mem_pres.2 ⟨a,ha,hy⟩)) x hxa
theorem pre_lv (e:Ex):∀ l m,(∀ x∈pre l e,fltS x=0)→∀ x∈pre m e,fltS x=0:=by
 induction e using Ex.ind with
 | h o n s ks ih =>
  intro l m h x hx;rw [pre_mk] at hx;rcases List.mem_cons.1 hx with rfl | hx
  ·have:=h ⟨l,o,n,s,ks.length⟩ (by rw [pre_mk];simp);rw [flt_lv m l];exact this
  ·exact pres_lv (l:=l+1) (m+1) (fun a ha=>ih a ha _ _) (fun y hy=>h y (by rw [pre_mk];simp [hy])) x hx
theorem ok_at (e:Ex) (l:Nat):Ok e↔∀ x∈pre l e,fltS x=0:=⟨pre_lv e 0 l,pre_lv e l 0⟩
theorem ok_mk (o n:Int) (s:ByteArray) (ks:List Ex):Ok (.mk o n s ks)↔fltS ⟨0,o,n,s,ks.length⟩=0∧∀ a∈ks,Ok a:=by
 constructor
 ·intro h;refine⟨h _ (by rw [pre_mk];simp),fun a ha=>(ok_at a 1).2 fun x hx=>h x (by rw [pre_mk];exact List.mem_cons_of_mem _ (mem_pres.2 ⟨a,ha,hx⟩))⟩
 ·rintro ⟨h1,h2⟩ x hx;rw [pre_mk] at hx;rcases List.mem_cons.1 hx with rfl | hx
  ·exact h1
  ·obtain⟨a,ha,hxa⟩:=mem_pres.1 hx;exact (ok_at a _).1 (h2 a ha) x hxa
def vld (e:Ex):Int:=vldL (pre 1 e)
theorem vld_zero (e:Ex):vld e=0↔Ok e∧dep e≤24∧sz e≤400:=by
 have h1:=pre_mx e 1;have h2:=pre_len e 1;unfold vld vldL;by_cases h:fstE (pre 1 e)=0
 ·rw [if_pos h,ok_at e 1,←fst_zero];by_cases g:24<mxL (pre 1 e)∨400<(pre 1 e).length
  ·rw [if_pos g];constructor
   ·intro x;omega
   ·rintro ⟨_,b,c⟩;omega
  ·rw [if_neg g];simp only [h,true_and];constructor
   ·intro _;omega
   ·intro _;trivial
 ·rw [if_neg h,ok_at e 1,←fst_zero];simp [h]
theorem vld_range (e:Ex):0≤vld e∧vld e≤7:=by
 unfold vld vldL;have:∀ L,0≤fstE L∧fstE L≤7:=by
  intro L;unfold fstE;have:∀ (L:List In) f,(0≤f∧f≤7)→0≤L.foldl (fun f x=>if f=0 then fltS x else f) f∧L.foldl (fun f x=>if f=0 then fltS x else f) f≤7:=by
   intro L;induction L with
   | nil=>intro f h;exact h
   | cons y r ih =>
    intro f h;rw [List.foldl_cons];apply ih;have:=flt_range y;split<;>omega
  exact this L 0 (by omega)
 have:=this (pre 1 e);split
 ·split<;>omega
 ·exact this
end ExM
namespace EtM
open Go NumM LexM ExM
def insW:List UInt8:=[105,110,115,105,100,101]
def sumW:List UInt8:=[115,117,109]
def onesW:List UInt8:=[111,110,101,115]
def bMark (o:Int):List UInt8 :=
 if o=21 then [61,62] else if o=20 then [124,124] else if o=19 then [38,38] else if o=11 then [124] else if o=12 then [94] else if o=10 then [38]
 else if o=15 then [61,61] else if o=16 then [33,61] else if o=17 then [60] else if o=18 then [60,61] else if o=13 then [60,60] else if o=14 then [62,62]
 else if o=7 then [43] else if o=8 then [45] else if o=9 then [42] else []
def bLev (o:Int):Int :=
 if o=21 then 2 else if o=20 then 3 else if o=19 then 4 else if o=11 then 5 else if o=12 then 6 else if o=10 then 7
 else if o=15 then 8 else if o=16 then 8 else if o=17 then 9 else if o=18 then 9 else if o=13 then 10 else if o=14 then 10
 else if o=7 then 11 else if o=8 then 11 else if o=9 then 12 else 0
def pMark (o:Int):List UInt8:=if o=4 then [33] else if o=5 then [126] else if o=6 then [45] else []
def lvS (o:Int):Int:=if o=22 then 1 else if o=23 then 9 else if bLev o≠0 then bLev o else if o=4∨o=5∨o=6 then 13 else 14
inductive Pc where
 | sp
 | wd (k n:Int) (x:List UInt8)
 | mk (x:List UInt8)
def Pc.tx:Pc→List UInt8 | .sp=>[32] | .wd _ _ x=>x | .mk x=>x
def txP (l:List Pc):List UInt8:=(l.map Pc.tx).flatten
def Pc.tk:Pc→List Tk | .sp=>[] | .wd k n x=>[⟨k,n,x,1⟩] | .mk x=>[⟨4,0,x,1⟩]
def toks (l:List Pc):List Tk:=(l.map Pc.tk).flatten
def plc (p:Int) (x:Int × List Pc):List Pc:=if lvS x.1<p then .mk [40]::(x.2++[.mk [41]]) else x.2
def rgs:List (Int × List Pc)→List Pc
 | a::b::r=>plc 1 a++.sp::.mk [46,46]::.sp::(plc 1 b++(match r with | []=>[] | _=>.mk [44]::.sp::rgs r))
 | _=>[]
def lPl (o:Int):Int:=if bLev o=2 then 3 else bLev o
def rPl (o:Int):Int:=if bLev o=2 then 2 else bLev o+1
def varP (s:List UInt8):List Pc :=
 if elmB s then [.wd 1 0 (s.take (s.length - 3)),.mk [64],.wd 3 (((s.drop (s.length - 2)).headD 48).toNat - 48) [(s.drop (s.length - 2)).headD 48]] else [.wd 1 0 s]
def one (o:Int) (s:List UInt8) (a:Int × List Pc):List Pc :=
 if o=3 then .wd 1 0 s::.mk [91]::(plc 1 a++[.mk [93]]) else if o=25 then .wd 1 0 onesW::.mk [40]::(plc 1 a++[.mk [41]]) else .mk (pMark o)::plc 13 a
def two (o:Int) (a b:Int × List Pc):List Pc:=plc (lPl o) a++.sp::.mk (bMark o)::.sp::plc (rPl o) b
def thr (a b c:Int × List Pc):List Pc:=plc 2 a++.sp::.mk [63]::.sp::(plc 1 b++.sp::.mk [58]::.sp::plc 1 c)
def ins (a:Int × List Pc) (r:List (Int × List Pc)):List Pc:=plc 9 a++.sp::.wd 2 0 insW::.sp::.mk [123]::.sp::(rgs r++[.sp,.mk [125]])
def form (o n:Int) (s:List UInt8) (xs:List (Int × List Pc)):List Pc :=
 if o=1 then [.wd 3 n (Lib.itoa n)] else if o=2 then varP s else if o=24 then [.wd 1 0 sumW,.mk [40],.wd 1 0 s,.mk [41]]
 else if o=23 then (match xs with | a::r=>ins a r | []=>[])
 else if o=22 then (match xs with | [a,b,c]=>thr a b c | _=>[])
 else match xs with | [a]=>one o s a | [a,b]=>two o a b | _=>[]
mutual
def bare:Ex→List Pc
 | .mk o n s ks=>form o n s.data.toList (bares ks)
def bares:List Ex→List (Int × List Pc)
 | []=>[]
 | .mk o n s ks::r=>(o,bare (.mk o n s ks))::bares r
end
def bx (e:Ex):Int × List Pc:=(e.op,bare e)
theorem bares_eq (ks:List Ex):bares ks=ks.map bx:=by
 induction ks with
 | nil=>rw [bares];rfl
 | cons a r ih=>cases a with
  | mk o n s ks=>rw [bares,ih];rfl
theorem bare_mk (o n:Int) (s:ByteArray) (ks:List Ex):bare (.mk o n s ks)=form o n s.data.toList (ks.map bx):=by rw [bare,bares_eq]
theorem txP_nil:txP []=[]:=rfl
theorem txP_cons (p:Pc) (r:List Pc):txP (p::r)=p.tx++txP r:=by simp [txP]
theorem txP_app (a b:List Pc):txP (a++b)=txP a++txP b:=by simp [txP]
theorem toks_nil:toks []=[]:=rfl
theorem toks_cons (p:Pc) (r:List Pc):toks (p::r)=p.tk++toks r:=by simp [toks]
theorem toks_app (a b:List Pc):toks (a++b)=toks a++toks b:=by simp [toks]
theorem txP_plc (p:Int) (x:Int × List Pc):txP (plc p x)=if lvS x.1<p then 40::(txP x.2++[41]) else txP x.2:=by
 unfold plc;split
 ·rw [txP_cons,txP_app,txP_cons,txP_nil];rfl
 ·rfl
theorem toks_plc (p:Int) (x:Int × List Pc):toks (plc p x)=if lvS x.1<p then ⟨4,0,[40],1⟩::(toks x.2++[⟨4,0,[41],1⟩]) else toks x.2:=by
 unfold plc;split
 ·rw [toks_cons,toks_app,toks_cons,toks_nil];rfl
 ·rfl
inductive Sh:Int→Int→ByteArray→List Ex→Prop where
 | con (n:Int) (h0:0≤n) (h1:n≤65535):Sh 1 n ⟨#[]⟩ []
 | var (s:ByteArray) (h:varB s.data.toList=true):Sh 2 0 s []
 | sum (s:ByteArray) (h:nmB s.data.toList=true):Sh 24 0 s []
 | elm (s:ByteArray) (a:Ex) (h:nmB s.data.toList=true):Sh 3 0 s [a]
 | ons (a:Ex):Sh 25 0 ⟨#[]⟩ [a]
 | pre (o:Int) (a:Ex) (h:o=4∨o=5∨o=6):Sh o 0 ⟨#[]⟩ [a]
 | bin (o:Int) (a b:Ex) (h:7≤o) (h':o≤21):Sh o 0 ⟨#[]⟩ [a,b]
 | iff (a b c:Ex):Sh 22 0 ⟨#[]⟩ [a,b,c]
 | ins (a:Ex) (r:List Ex) (h1:2≤r.length) (h2:r.length≤32) (h3:r.length % 2=0):Sh 23 0 ⟨#[]⟩ (a::r)
theorem nm_empty {s:ByteArray} (h:s.size=0):s=⟨#[]⟩:=by
 rcases s with ⟨⟨l⟩⟩
 have:l.length=0:=h;rw [List.length_eq_zero_iff.1 this]
theorem shape {o n:Int} {s:ByteArray} {ks:List Ex} (h:fltS ⟨0,o,n,s,ks.length⟩=0):Sh o n s ks:=by
 unfold fltS at h;split at h
 ·cases h
 ·rename_i hA;split at h
  ·cases h
  ·rename_i hN;simp only [badA,badN,Bool.or_eq_true,Bool.and_eq_true,not_or,Bool.not_eq_true',Bool.not_eq_false,decide_eq_true_eq,Int.not_lt,not_and,decide_eq_false_iff_not] at hA hN;obtain⟨ht,h0,h1,h2⟩:=hA;obtain⟨n1,n2⟩:=hN;have hnm:isVr o=false→isAr o=false→s=⟨#[]⟩:=fun a b=>nm_empty (by
    rcases Nat.eq_zero_or_pos s.size with g | g
    ·exact g
    ·exact absurd b (by rw [h2 (by omega) a];decide))
   have hn0:o≠1→n=0:=(fun g=>by unfold greatS at h1;rw [if_neg g] at h1;omega);by_cases c23:o=23
   ·subst c23;have ht':3≤ks.length∧ks.length≤33∧ks.length % 2=1:=(by simpa [takesS] using ht);cases ks with
    | nil=>simp at ht'
    | cons a r =>
     rw [List.length_cons] at ht';rw [hn0 (by decide),hnm rfl rfl];exact .ins a r (by omega) (by omega) (by omega)
   have ht':(ks.length:Int)=arS o:=(by simpa [takesS,c23] using ht);by_cases c1:o=1
   ·subst c1;have:ks=[]:=(by simpa [arS] using ht');rw [this,hnm rfl rfl];exact .con n h0 (by simpa [greatS] using h1)
   rw [hn0 c1];by_cases c2:o=2
   ·subst c2;have:ks=[]:=(by simpa [arS] using ht');rw [this];exact .var s (n1 rfl)
   by_cases c24:o=24
   ·subst c24;have:ks=[]:=(by simpa [arS] using ht');rw [this];exact .sum s (n2 rfl)
   by_cases c3:o=3
   ·subst c3;obtain⟨a,ha⟩:=List.length_eq_one_iff.1 (show ks.length=1 by simp [arS] at ht';omega);rw [ha];exact .elm s a (n2 rfl)
   have e0:s=⟨#[]⟩:=hnm (by simp [isVr,c2]) (by simp [isAr,c3,c24]);rw [e0];by_cases c25:o=25
   ·subst c25;obtain⟨a,ha⟩:=List.length_eq_one_iff.1 (show ks.length=1 by simp [arS] at ht';omega);rw [ha];exact .ons a
   by_cases c4:o=4∨o=5∨o=6
   ·obtain⟨a,ha⟩:=List.length_eq_one_iff.1 (show ks.length=1 by unfold arS at ht';rw [if_neg (by omega),if_pos (by omega)] at ht';omega);rw [ha];exact .pre o a c4
   by_cases c22:o=22
   ·subst c22;have hl:ks.length=3:=(by simp [arS] at ht';omega);match ks,hl with
    | [a,b,c],_=>exact .iff a b c
   unfold arS at ht';rw [if_neg (by omega),if_neg (by omega),if_neg c22,if_neg c23] at ht';split at ht'
   ·have hl:ks.length=2:=(by omega);match ks,hl with
    | [a,b],_=>exact .bin o a b (by omega) (by omega)
   ·omega
def nb1 (l:List Pc) (nb:Option UInt8):Option UInt8:=match txP l with | []=>nb | c::_=>some c
def okP:Pc→Option UInt8→Prop
 | .sp,_=>True
 | .wd k n x,nb=>x≠[]∧x.all wrd=true∧firstS x=(⟨k,n,x,0⟩,0)∧∀ c,nb=some c→wrd c=false
 | .mk x,nb=>isMk x=true∧(x.length=2∨∀ c,nb=some c→isMk (x++[c])=false)
def adj:List Pc→Option UInt8→Prop
 | [],_=>True
 | p::r,nb=>okP p (nb1 r nb)∧adj r nb
theorem nb1_app (a b:List Pc) (nb:Option UInt8):nb1 (a++b) nb=nb1 a (nb1 b nb):=by
 unfold nb1;rw [txP_app];cases txP a<;>rfl
theorem adj_app (a b:List Pc) (nb:Option UInt8):adj (a++b) nb↔adj a (nb1 b nb)∧adj b nb:=by
 induction a with
 | nil=>simp [adj]
 | cons p r ih=>rw [List.cons_append,adj,adj,ih,nb1_app,and_assoc]
theorem mk_len {m:List UInt8} (h:isMk m=true):m.length=1∨m.length=2:=by
 have f:=mk_facts m (of_decide_eq_true h);have:m.length≠0:=(fun e=>f.1 (List.length_eq_zero_iff.1 e));omega
theorem mk_word {m:List UInt8} (h:isMk m=true) (r:List UInt8):wordS (m++r)=[]:=by
 have f:=mk_facts m (of_decide_eq_true h);cases m with
 | nil=>exact absurd rfl f.1
 | cons c q =>
  have:=(mk_byte h (c:=c) (by simp)).1;unfold wordS;rw [List.cons_append,List.takeWhile_cons,this];rfl
theorem mk_app {m:List UInt8} (h:isMk m=true) {c:UInt8} {r:List UInt8} (hc:m.length=2∨isMk (m++[c])=false):firstS (m++c::r)=(⟨4,0,m,0⟩,0):=by
 rw [first_mark (mk_word h _)];unfold markT;rcases mk_len h with hl | hl
 ·have h2:(m++c::r).take 2=m++[c]:=by
   rw [List.take_append,List.take_of_length_le (by omega),hl];rfl
  have h1:(m++c::r).take 1=m:=by
   rw [List.take_append,List.take_of_length_le (by omega),hl];simp
  rw [h2,h1,if_neg (by rw [hc.resolve_left (by omega)];decide),if_pos h]
 ·have h2:(m++c::r).take 2=m:=by
   rw [List.take_append,List.take_of_length_le (by omega),hl];simp
  rw [h2,if_pos h]
theorem wd_app {x:List UInt8} {k n:Int} (hn:x≠[]) (ha:x.all wrd=true) (hf:firstS x=(⟨k,n,x,0⟩,0)) {c:UInt8} {r:List UInt8} (hc:wrd c=false):firstS (x++c::r)=(⟨k,n,x,0⟩,0):=by
 have hw:=wordS_all ha;obtain⟨d,q,hx⟩:=List.exists_cons_of_ne_nil hn;have e:wordS (x++c::r)=wordS x:=word_app x r hc;rw [←hf];unfold firstS;rw [e,hw,hx]
theorem lex_one {x rest:List UInt8} {k n:Int} (hf:firstS (x++rest)=(⟨k,n,x,0⟩,0)) (hb:∃ d q,x=d::q∧d.toNat≠10∧d.toNat≠32∧d.toNat≠9∧d.toNat≠47) (ln:Int) (acc:List Tk) :
  lex (x++rest) ln acc=lex rest ln (acc++[⟨k,n,x,ln⟩]):=by
 obtain⟨d,q,hx,h1,h2,h3,h4⟩:=hb;have hX:x++rest=d::(q++rest):=(by rw [hx];rfl);have hc:cmt (d::(q++rest))=false:=by
  cases e:cmt (d::(q++rest))
  ·rfl
  ·exact absurd (cmt_head e) h4
 rw [hX] at hf ⊢;rw [lex_tok _ _ _ h1 (by omega) hc (by rw [hf]),hf,←hX];simp only [List.drop_left'];rfl
theorem lexP (ps:List Pc):∀ (nb:Option UInt8) (rest:List UInt8) (acc:List Tk),rest.head? = nb→adj ps nb→lex (txP ps++rest) 1 acc=lex rest 1 (acc++toks ps):=by
 induction ps with
 | nil=>intro nb rest acc _ _;rw [txP_nil,toks_nil,List.append_nil];rfl
 | cons p r ih =>
  intro nb rest acc hr h;obtain⟨h1,h2⟩:=h;have hhd:(txP r++rest).head? = nb1 r nb:=by
   unfold nb1;cases e:txP r with
   | nil=>exact hr
   | cons c q=>rfl
  rw [txP_cons,toks_cons,List.append_assoc];cases p with
  | sp =>
   show lex (32::(txP r++rest)) 1 acc=_;rw [lex_blank _ _ _ (.inl rfl),ih nb rest acc hr h2];rfl
  | wd k n x =>
   obtain⟨hn,ha,hf,hc⟩:=h1;have hf2:firstS (x++(txP r++rest))=(⟨k,n,x,0⟩,0):=by
    cases e:txP r++rest with
    | nil=>rw [List.append_nil];exact hf
    | cons c q=>exact wd_app hn ha hf (hc c (by rw [←hhd,e];rfl))
   show lex (x++(txP r++rest)) 1 acc=_;rw [lex_one hf2 (by
    obtain⟨d,q,hx⟩:=List.exists_cons_of_ne_nil hn;have hd:wrd d=true:=List.all_eq_true.1 ha d (by rw [hx];simp);have:=wrd_facts hd;exact⟨d,q,hx,this.1,this.2.1,this.2.2.1,this.2.2.2.2⟩),ih nb rest _ hr h2,List.append_assoc]
   rfl
  | mk x =>
   obtain⟨hm,hc⟩:=h1;have hf2:firstS (x++(txP r++rest))=(⟨4,0,x,0⟩,0):=by
    cases e:txP r++rest with
    | nil=>rw [List.append_nil];exact mk_first hm
    | cons c q=>exact mk_app hm (hc.imp id (fun g=>g c (by rw [←hhd,e];rfl)))
   show lex (x++(txP r++rest)) 1 acc=_;rw [lex_one hf2 (by
    have f:=mk_facts x (of_decide_eq_true hm);obtain⟨d,q,hx⟩:=List.exists_cons_of_ne_nil f.1;have hb:=mk_byte hm (c:=d) (by rw [hx];simp);refine⟨d,q,hx,hb.2.1,hb.2.2.1,hb.2.2.2.1,fun g=>f.2.2.1 ?_⟩;rw [hx,List.head?_cons,←UInt8.toNat_inj.1 (show d.toNat=(47:UInt8).toNat from g)]),ih nb rest _ hr h2,List.append_assoc]
   rfl
def Nb (nb:Option UInt8):Prop:=nb=none∨nb=some 32∨nb=some 41∨nb=some 93∨nb=some 44
def Hd (c:UInt8):Prop:=wrd c=true∨c=40∨c=33∨c=126∨c=45
theorem hd_mk {c:UInt8} (h:Hd c) {m:UInt8} (hm:m=40∨m=91∨m=33∨m=126∨m=45):isMk ([m]++[c])=false:=by
 rcases h with h | h
 ·exact not_mk (c:=c) (by simp) (.inl h)
 ·rcases hm with rfl | rfl | rfl | rfl | rfl<;>rcases h with rfl | rfl | rfl | rfl<;>decide
theorem nb_mk {nb:Option UInt8} (h:Nb nb) {m:UInt8} (hm:m=41∨m=93∨m=125):∀ c,nb=some c→isMk ([m]++[c])=false:=by
 intro c hc;rcases h with h | h | h | h | h
 ·rw [h] at hc;cases hc
 all_goals
  rw [h] at hc;cases hc;rcases hm with rfl | rfl | rfl<;>decide
theorem nb_wd {nb:Option UInt8} (h:Nb nb):∀ c,nb=some c→wrd c=false:=by
 intro c hc;rcases h with h | h | h | h | h
 ·rw [h] at hc;cases hc
 all_goals
  rw [h] at hc;cases hc;decide
structure Op (l:List Pc):Prop where
 adj:∀ nb,Nb nb→EtM.adj l nb
 hd:∃ c q,txP l=c::q∧Hd c
theorem Op.nb {l:List Pc} (h:Op l) (nb:Option UInt8):∃ c,nb1 l nb=some c∧Hd c:=by
 obtain⟨c,q,e,hc⟩:=h.hd;exact⟨c,by unfold nb1;rw [e],hc⟩
theorem mk_ok {m:UInt8} {nb:Option UInt8} (h1:isMk [m]=true) (h2:∀ c,nb=some c→isMk ([m]++[c])=false):okP (.mk [m]) nb:=⟨h1,.inr h2⟩
theorem mk_op {m:UInt8} (h1:isMk [m]=true) (hm:m=40∨m=91∨m=33∨m=126∨m=45) {l:List Pc} (h:Op l) (nb:Option UInt8):okP (.mk [m]) (nb1 l nb):=by
 obtain⟨c,e,hc⟩:=h.nb nb;refine mk_ok h1 (fun d hd=>?_);rw [e] at hd;cases hd;exact hd_mk hc hm
theorem mk_end {m:UInt8} (h1:isMk [m]=true) (hm:m=41∨m=93∨m=125) {nb:Option UInt8} (h:Nb nb):okP (.mk [m]) nb:=mk_ok h1 (nb_mk h hm)
theorem Nb.sp:Nb (some 32):=.inr (.inl rfl)
theorem plc_op (p:Int) {x:Int × List Pc} (h:Op x.2):Op (plc p x):=by
 unfold plc;split
 ·refine⟨fun nb hnb=>⟨?_,(adj_app _ _ _).2 ⟨h.adj _ (.inr (.inr (.inl rfl))),⟨mk_end rfl (.inl rfl) hnb,trivial⟩⟩⟩,⟨40,_,rfl,.inr (.inl rfl)⟩⟩;rw [nb1_app];exact mk_op rfl (.inl rfl) h _
 ·exact h
theorem wd_ok {k n:Int} {x:List UInt8} {nb:Option UInt8} (hn:x≠[]) (ha:x.all wrd=true) (hf:firstS x=(⟨k,n,x,0⟩,0)) (h:∀ c,nb=some c→wrd c=false):okP (.wd k n x) nb:=⟨hn,ha,hf,h⟩
theorem nm_parts {x:List UInt8} (h:nmB x=true):x≠[]∧x.all wrd=true∧firstS x=(⟨1,0,x,0⟩,0)∧x.length≤16:=by
 have h2:=valid_iff.1 ((name_iff x).trans h);cases x with
 | nil=>cases h
 | cons c r =>
  simp only [nmB,Bool.and_eq_true,decide_eq_true_eq] at h;exact⟨by simp,h.2.2.2,h2,h.1⟩
theorem itoa_parts {n:Int} (h0:0≤n) (h1:n≤65535):Lib.itoa n≠[]∧(Lib.itoa n).all wrd=true∧firstS (Lib.itoa n)=(⟨3,n,Lib.itoa n,0⟩,0):=by
 have hf:=itoa_first h0 (show n≤2147483647 by omega);have hd:=dec_spec n.toNat;have he:Lib.itoa n=Lib.decDigits n.toNat:=(by unfold Lib.itoa;rw [if_neg (by omega)]);refine⟨by rw [he];exact hd.2.1,?_,hf⟩;rw [he,List.all_eq_true];exact fun c hc=>wrd_dgt (List.all_eq_true.1 hd.1 c hc)
theorem hd_of_all {x:List UInt8} (hn:x≠[]) (ha:x.all wrd=true) (r:List UInt8):∃ c q,x++r=c::q∧Hd c:=by
 obtain⟨c,q,e⟩:=List.exists_cons_of_ne_nil hn;exact⟨c,q++r,by rw [e];rfl,.inl (List.all_eq_true.1 ha c (by rw [e];simp))⟩
theorem nb1_mk (m:UInt8) (q:List UInt8) (r:List Pc) (nb:Option UInt8):nb1 (.mk (m::q)::r) nb=some m:=by unfold nb1;rw [txP_cons];rfl
theorem nb1_sp (r:List Pc) (nb:Option UInt8):nb1 (.sp::r) nb=some 32:=by unfold nb1;rw [txP_cons];rfl
theorem fst_wd {m:UInt8} (h:wrd m=false):∀ c,some m=some c→wrd c=false:=fun c e=>by cases e;exact h
theorem elm_parts {s:List UInt8} (h:elmB s=true):∃ (r:List UInt8) (d:UInt8),s=r++[91,d,93]∧nmB r=true∧48≤d.toNat∧d.toNat≤55:=by
 unfold elmB at h;split at h
 ·rename_i c d b r e;simp only [Bool.and_eq_true,decide_eq_true_eq] at h;obtain⟨rfl,rfl,⟨h1,h2⟩,h3⟩:=h;refine⟨r.reverse,d,?_,h3,h1,h2⟩;have:=congrArg List.reverse e;rw [List.reverse_reverse] at this;rw [this];simp
 ·cases h
theorem varP_elm {s r:List UInt8} {d:UInt8} (h:s=r++[91,d,93]) (he:elmB s=true):varP s=[.wd 1 0 r,.mk [64],.wd 3 (d.toNat - 48) [d]]:=by
 unfold varP;rw [if_pos he];have hl:s.length=r.length+3:=(by rw [h];simp);have e1:s.take (s.length - 3)=r:=(by rw [hl,h,show r.length+3 - 3=r.length by omega,List.take_left'];rfl);have e2:s.drop (s.length - 2)=[d,93]:=by
  rw [hl,h,show r.length+3 - 2=r.length+1 by omega,List.drop_append,List.drop_of_length_le (by omega),show r.length+1 - r.length=1 by omega];rfl
 rw [e1,e2];rfl
theorem dig_itoa {d:UInt8} (h1:48≤d.toNat) (h2:d.toNat≤57):Lib.itoa ((d.toNat:Int) - 48)=[d]:=by
 have he:Lib.itoa ((d.toNat:Int) - 48)=Lib.decDigits (d.toNat - 48):=(by unfold Lib.itoa;rw [if_neg (by omega)];congr 1;omega);rw [he,dec_small (by omega)]
 congr 1
 rw [←UInt8.toNat_inj,dig_toNat (by omega)];omega
theorem var_op {s:List UInt8} (h:varB s=true):Op (varP s):=by
 unfold varB at h;by_cases he:elmB s=true
 ·obtain⟨r,d,e,hr,h1,h2⟩:=elm_parts he;rw [varP_elm e he];have p:=nm_parts hr;have q:=itoa_parts (n:=(d.toNat:Int) - 48) (by omega) (by omega);rw [dig_itoa h1 (by omega)] at q;refine⟨fun nb hnb=>⟨wd_ok p.1 p.2.1 p.2.2.1 (by rw [nb1_mk];exact fst_wd (by decide)),⟨mk_ok (by decide) (fun c hc=>?_),⟨wd_ok q.1 q.2.1 q.2.2 (nb_wd hnb),trivial⟩⟩⟩,?_⟩
  ·have:nb1 [Pc.wd 3 ((d.toNat:Int) - 48) [d]] nb=some d:=rfl;rw [this] at hc;cases hc;exact not_mk (c:=d) (by simp) (.inl (List.all_eq_true.1 q.2.1 d (by simp)))
  ·rw [txP_cons];exact hd_of_all p.1 p.2.1 _
 ·have hs:nmB s=true:=by
   cases e:elmB s
   ·rw [e] at h;simpa using h
   ·exact absurd e he
  have p:=nm_parts hs;unfold varP;rw [if_neg he];exact⟨fun nb hnb=>⟨wd_ok p.1 p.2.1 p.2.2.1 (nb_wd hnb),trivial⟩,by rw [txP_cons];exact hd_of_all p.1 p.2.1 _⟩
theorem sp_cons {l:List Pc} {nb:Option UInt8} (h:adj l nb):adj (.sp::l) nb:=⟨trivial,h⟩
theorem mk_sp {m:List UInt8} (hm:isMk m=true) {l:List Pc} {nb:Option UInt8} (h:adj l nb):adj (.mk m::.sp::l) nb:=by
 refine⟨⟨hm,.inr (fun c hc=>?_)⟩,sp_cons h⟩;rw [nb1_sp] at hc;cases hc;exact not_mk (c:=32) (by simp) (by decide)
theorem op_sp {a l:List Pc} (ha:Op a) {nb:Option UInt8} (h:adj l nb):adj (a++.sp::l) nb:=(adj_app _ _ _).2 ⟨by rw [nb1_sp];exact ha.adj _ .sp,sp_cons h⟩
theorem op_hd {a:List Pc} (ha:Op a) (l:List Pc):∃ c q,txP (a++l)=c::q∧Hd c:=by
 obtain⟨c,q,e,hc⟩:=ha.hd;exact⟨c,q++txP l,by rw [txP_app,e];rfl,hc⟩
theorem rgs_adj:∀ (n:Nat) (xs:List (Int × List Pc)),xs.length≤n→(∀ x∈xs,Op x.2)→adj (rgs xs) (some 32)
 | 0,xs,h,_=>by
  obtain rfl:xs=[]:=List.length_eq_zero_iff.1 (by omega);exact trivial
 | n+1,xs,h,hx=>by
  match xs,h,hx with
  | [],_,_=>exact trivial
  | [a],_,_=>exact trivial
  | a::b::r,h,hx =>
   have ha:=plc_op 1 (hx a (by simp));have hb:=plc_op 1 (hx b (by simp));have hr:=rgs_adj n r (by simp at h;omega) (fun x hxr=>hx x (by simp [hxr]));cases r with
   | nil =>
    rw [rgs];exact op_sp ha (mk_sp (by decide) ((adj_app _ _ _).2 ⟨hb.adj _ .sp,trivial⟩))
   | cons c r' =>
    rw [rgs]
    ·exact op_sp ha (mk_sp (by decide) ((adj_app _ _ _).2 ⟨hb.adj _ (by rw [nb1_mk];exact .inr (.inr (.inr (.inr rfl)))),mk_sp (by decide) hr⟩))
    ·simp
theorem bMark_mk {o:Int} (h:7≤o) (h':o≤21):isMk (bMark o)=true:=by
 have:o=7∨o=8∨o=9∨o=10∨o=11∨o=12∨o=13∨o=14∨o=15∨o=16∨o=17∨o=18∨o=19∨o=20∨o=21:=(by omega);rcases this with rfl | rfl | rfl | rfl | rfl | rfl | rfl | rfl | rfl | rfl | rfl | rfl | rfl | rfl | rfl<;>decide
theorem form_bin {o n:Int} {s:List UInt8} {a b:Int × List Pc} (h:7≤o) (h':o≤21):form o n s [a,b]=two o a b:=by
 unfold form;rw [if_neg (by omega),if_neg (by omega),if_neg (by omega),if_neg (by omega),if_neg (by omega)]
theorem form_pre {o n:Int} {s:List UInt8} {a:Int × List Pc} (h:o=4∨o=5∨o=6):form o n s [a]=.mk (pMark o)::plc 13 a:=by
 unfold form;rw [if_neg (by omega),if_neg (by omega),if_neg (by omega),if_neg (by omega),if_neg (by omega)];show one o s a=_;unfold one;rw [if_neg (by omega),if_neg (by omega)]
theorem form_op {o n:Int} {s:ByteArray} {ks:List Ex} (h:Sh o n s ks) (hk:∀ a∈ks,Op (bare a)):Op (form o n s.data.toList (ks.map bx)):=by
 cases h with
 | con _ h0 h1 =>
  have q:=itoa_parts h0 h1;exact⟨fun nb hnb=>⟨wd_ok q.1 q.2.1 q.2.2 (nb_wd hnb),trivial⟩,by rw [show form 1 n (ByteArray.mk #[]).data.toList (List.map bx [])=[.wd 3 n (Lib.itoa n)] from rfl,txP_cons];exact hd_of_all q.1 q.2.1 _⟩
 | var _ h=>exact var_op h
 | sum _ h =>
  have p:=nm_parts h;have q:=nm_parts (x:=sumW) (by decide);refine⟨fun nb hnb=>⟨wd_ok q.1 q.2.1 q.2.2.1 (by rw [nb1_mk];exact fst_wd (by decide)),⟨mk_ok (by decide) (fun c hc=>?_),⟨wd_ok p.1 p.2.1 p.2.2.1 (by rw [nb1_mk];exact fst_wd (by decide)),⟨mk_end rfl (.inl rfl) hnb,trivial⟩⟩⟩⟩,⟨115,_,rfl,.inl (by decide)⟩⟩;obtain⟨d,r,e⟩:=List.exists_cons_of_ne_nil p.1;have:nb1 [Pc.wd 1 0 s.data.toList,.mk [41]] nb=some d:=(by unfold nb1;rw [txP_cons];simp only [Pc.tx];rw [e];rfl);rw [this] at hc;obtain rfl:d=c:=Option.some.inj hc;exact not_mk (c:=d) (by simp) (.inl (List.all_eq_true.1 p.2.1 d (by rw [e];simp)))
 | elm _ a h =>
  have p:=nm_parts h;have ha:=plc_op 1 (x:=bx a) (hk a (by simp));refine⟨fun nb hnb=>⟨wd_ok p.1 p.2.1 p.2.2.1 (by rw [nb1_mk];exact fst_wd (by decide)),⟨by rw [nb1_app];exact mk_op rfl (.inr (.inl rfl)) ha _,(adj_app _ _ _).2 ⟨ha.adj _ (.inr (.inr (.inr (.inl rfl)))),⟨mk_end rfl (.inr (.inl rfl)) hnb,trivial⟩⟩⟩⟩,?_⟩;show ∃ c q,txP (.wd 1 0 s.data.toList::_)=c::q∧Hd c;rw [txP_cons];exact hd_of_all p.1 p.2.1 _
 | ons a =>
  have q:=nm_parts (x:=onesW) (by decide);have ha:=plc_op 1 (x:=bx a) (hk a (by simp));exact⟨fun nb hnb=>⟨wd_ok q.1 q.2.1 q.2.2.1 (by rw [nb1_mk];exact fst_wd (by decide)),⟨by rw [nb1_app];exact mk_op rfl (.inl rfl) ha _,(adj_app _ _ _).2 ⟨ha.adj _ (.inr (.inr (.inl rfl))),⟨mk_end rfl (.inl rfl) hnb,trivial⟩⟩⟩⟩,⟨111,_,rfl,.inl (by decide)⟩⟩
 | pre _ a h =>
  have ha:=plc_op 13 (x:=bx a) (hk a (by simp));show Op (form o 0 _ [bx a]);rw [form_pre h];rcases h with rfl | rfl | rfl
  ·exact⟨fun nb hnb=>⟨mk_op rfl (.inr (.inr (.inl rfl))) ha _,ha.adj nb hnb⟩,⟨33,_,rfl,.inr (.inr (.inl rfl))⟩⟩
  ·exact⟨fun nb hnb=>⟨mk_op rfl (.inr (.inr (.inr (.inl rfl)))) ha _,ha.adj nb hnb⟩,⟨126,_,rfl,.inr (.inr (.inr (.inl rfl)))⟩⟩
  ·exact⟨fun nb hnb=>⟨mk_op rfl (.inr (.inr (.inr (.inr rfl)))) ha _,ha.adj nb hnb⟩,⟨45,_,rfl,.inr (.inr (.inr (.inr rfl)))⟩⟩
 | bin _ a b h h' =>
  have ha:=plc_op (lPl o) (x:=bx a) (hk a (by simp));have hb:=plc_op (rPl o) (x:=bx b) (hk b (by simp));show Op (form o 0 _ [bx a,bx b]);rw [form_bin h h'];exact⟨fun nb hnb=>op_sp ha (mk_sp (bMark_mk h h') (hb.adj nb hnb)),op_hd ha _⟩
 | iff a b c =>
  have ha:=plc_op 2 (x:=bx a) (hk a (by simp));have hb:=plc_op 1 (x:=bx b) (hk b (by simp));have hc:=plc_op 1 (x:=bx c) (hk c (by simp));exact⟨fun nb hnb=>op_sp ha (mk_sp (by decide) (op_sp hb (mk_sp (by decide) (hc.adj nb hnb)))),op_hd ha _⟩
 | ins a r h1 h2 h3 =>
  have ha:=plc_op 9 (x:=bx a) (hk a (by simp));have hr:=rgs_adj _ (r.map bx) (Nat.le_refl _) (fun x hx=>by
   obtain⟨e,he,rfl⟩:=List.mem_map.1 hx;exact hk e (by simp [he]))
  refine⟨fun nb hnb=>op_sp ha ⟨wd_ok (by decide) (by decide) (kw_first (by decide)) (by rw [nb1_sp];exact fst_wd (by decide)),sp_cons (mk_sp (by decide) ((adj_app _ _ _).2 ⟨?_,sp_cons ⟨mk_end rfl (.inr (.inr rfl)) hnb,trivial⟩⟩))⟩,op_hd ha _⟩;rw [nb1_sp];exact hr
theorem bare_op (e:Ex):Ok e→Op (bare e):=by
 induction e using Ex.ind with
 | h o n s ks ih =>
  intro h;obtain⟨h1,h2⟩:=(ok_mk o n s ks).1 h;rw [bare_mk];exact form_op (shape h1) (fun a ha=>ih a ha (h2 a ha))
def prn (e:Ex):List UInt8:=txP (bare e)
def bT (x:List UInt8):Int × Int × Bool :=
 if x=[61,62] then (2,21,false) else if x=[124,124] then (3,20,false) else if x=[38,38] then (4,19,false) else if x=[124] then (5,11,false) else if x=[94] then (6,12,false)
 else if x=[38] then (7,10,false) else if x=[61,61] then (8,15,false) else if x=[33,61] then (8,16,false) else if x=[60] then (9,17,false) else if x=[60,61] then (9,18,false)
 else if x=[62] then (9,17,true) else if x=[62,61] then (9,18,true) else if x=[60,60] then (10,13,false) else if x=[62,62] then (10,14,false) else if x=[43] then (11,7,false)
 else if x=[45] then (11,8,false) else if x=[42] then (12,9,false) else (0,0,false)
def pT (x:List UInt8):Int:=if x=[33] then 4 else if x=[126] then 5 else if x=[45] then 6 else 0
inductive Jb where
 | ch
 | op (lv:Int)
 | lp (lv rc:Int) (e:Ex)
 | jn (k o:Int) (sw:Bool) (e:Ex)
 | rg (e:Ex)
 | rl (acc:List Ex)
 | pf
 | pr
 | nm (s:List UInt8)
inductive Rs where
 | ok (e:Ex) (r:List Tk)
 | bad (err:Int) (k:Nat)
 | out
def Rs.bind:Rs→(Ex→List Tk→Rs)→Rs
 | .ok e r,g=>g e r
 | .bad x k,_=>.bad x k
 | .out,_=>.out
def hdT (l:List Tk):Tk:=l.headD zTk
def tx (l:List Tk):List UInt8:=(hdT l).text
def kd (l:List Tk):Int:=(hdT l).kind
def nmr (l:List Tk):Int:=(hdT l).n
def flt (l:List Tk):Rs:=.bad (if l.length=0 then 6 else 5) l.length
def need (m:List UInt8) (l:List Tk) (g:List Tk→Rs):Rs:=if tx l=m then g l.tail else flt l
def nameR (l:List Tk) (g:List UInt8→List Tk→Rs):Rs:=if kd l=1 then g (tx l) l.tail else flt l
def numR (l:List Tk) (g:Int→List Tk→Rs):Rs:=if kd l=3 then (if 65535<nmr l then .bad 3 l.length else g (nmr l) l.tail) else flt l
abbrev mb (l:List UInt8):ByteArray:=⟨l.toArray⟩
def nod (o:Int) (ks:List Ex):Ex:=.mk o 0 ⟨#[]⟩ ks
def elN (s:List UInt8) (n:Int):List UInt8:=s++91::(Lib.itoa n++[93])
def run:Nat→Jb→List Tk→Rs
 | 0,_,_=>.out
 | f+1,.ch,l=>(run f (.op 2) l).bind fun c r=>if tx r=[63] then (run f .ch r.tail).bind fun a r2=>need [58] r2 fun r3=>(run f .ch r3).bind fun b r4=>.ok (nod 22 [c,a,b]) r4 else .ok c r
 | f+1,.op lv,l=>(run f .pf l).bind fun e r=>run f (.lp lv 13 e) r
 | f+1,.lp lv rc e,l =>
  if (bT (tx l)).1≠0∧lv≤(bT (tx l)).1∧(bT (tx l)).1≤rc then (run f (.jn (bT (tx l)).1 (bT (tx l)).2.1 (bT (tx l)).2.2 e) l.tail).bind fun e2 r=>run f (.lp lv (bT (tx l)).1 e2) r
  else if lv≤9∧tx l=insW then (run f (.rg e) l.tail).bind fun e2 r=>run f (.lp lv 9 e2) r
  else .ok e l
 | f+1,.jn k o sw e,l=>(run f (.op (if k=2 then 2 else k+1)) l).bind fun b r=>.ok (nod o (if sw then [b,e] else [e,b])) r
 | f+1,.rg e,l=>need [123] l fun r=>run f (.rl [e]) r
 | f+1,.rl acc,l=>(run f .ch l).bind fun a r=>need [46,46] r fun r2=>(run f .ch r2).bind fun b r3=>if tx r3=[44] then run f (.rl (acc++[a,b])) r3.tail else need [125] r3 fun r4=>.ok (nod 23 (acc++[a,b])) r4
 | f+1,.pf,l=>if pT (tx l)≠0 then (run f .pf l.tail).bind fun a r=>.ok (nod (pT (tx l)) [a]) r else run f .pr l
 | f+1,.pr,l=>if kd l=3 then numR l fun n r=>.ok (.mk 1 n ⟨#[]⟩ []) r else if kd l=1 then run f (.nm (tx l)) l.tail else need [40] l fun r=>(run f .ch r).bind fun e r2=>need [41] r2 fun r3=>.ok e r3
 | f+1,.nm s,l =>
  if s=sumW∧tx l=[40] then nameR l.tail fun m r=>need [41] r fun r2=>.ok (.mk 24 0 (mb m) []) r2
  else if s=onesW∧tx l=[40] then (run f .ch l.tail).bind fun a r=>need [41] r fun r2=>.ok (nod 25 [a]) r2
  else if tx l=[91] then (run f .ch l.tail).bind fun a r=>need [93] r fun r2=>.ok (.mk 3 0 (mb s) [a]) r2
  else if tx l=[64] then numR l.tail fun n r=>.ok (.mk 2 0 (mb (elN s n)) []) r
  else .ok (.mk 2 0 (mb s) []) l
theorem bind_ne {x:Rs} {g:Ex→List Tk→Rs} (h:x.bind g≠.out):x≠.out:=fun e=>h (by rw [e];rfl)
theorem bind_mono {x y:Rs} {g k:Ex→List Tk→Rs} (h:x.bind g≠.out) (hx:x≠.out→y=x) (hg:∀ e r,g e r≠.out→k e r=g e r):y.bind k=x.bind g:=by
 rw [hx (bind_ne h)];cases x with
 | ok e r=>exact hg e r h
 | bad _ _=>rfl
 | out=>rfl
theorem need_mono {m:List UInt8} {l:List Tk} {g k:List Tk→Rs} (h:need m l g≠.out) (hg:∀ r,g r≠.out→k r=g r):need m l k=need m l g:=by
 unfold need at h ⊢;split
 ·rename_i c;rw [if_pos c] at h;exact hg _ h
 ·rfl
theorem run_mono:∀ (f:Nat) (j:Jb) (l:List Tk),run f j l≠.out→run (f+1) j l=run f j l:=by
 intro f;induction f with
 | zero=>intro j l h;exact absurd rfl h
 | succ f ih =>
  intro j l h;cases j with
  | ch =>
   rw [run] at h
   conv=>lhs;rw [run]
   conv=>rhs;rw [run]
   refine (bind_mono h (ih _ _) fun c r hg=>?_);split
   ·rename_i q;rw [if_pos q] at hg;exact bind_mono hg (ih _ _) fun a r2 h2=>need_mono h2 fun r3 h3=>bind_mono h3 (ih _ _) fun _ _ _=>rfl
   ·rfl
  | op lv =>
   rw [run] at h
   conv=>lhs;rw [run]
   conv=>rhs;rw [run]
   exact bind_mono h (ih _ _) fun e r h2=>ih _ _ h2
  | lp lv rc e =>
   rw [run] at h
   conv=>lhs;rw [run]
   conv=>rhs;rw [run]
   split
   ·rename_i q;rw [if_pos q] at h;exact bind_mono h (ih _ _) fun e2 r h2=>ih _ _ h2
   ·rename_i q;rw [if_neg q] at h;split
    ·rename_i q2;rw [if_pos q2] at h;exact bind_mono h (ih _ _) fun e2 r h2=>ih _ _ h2
    ·rfl
  | jn k o sw e =>
   rw [run] at h
   conv=>lhs;rw [run]
   conv=>rhs;rw [run]
   exact bind_mono h (ih _ _) fun _ _ _=>rfl
  | rg e =>
   rw [run] at h
   conv=>lhs;rw [run]
   conv=>rhs;rw [run]
   exact need_mono h fun r h2=>ih _ _ h2
  | rl acc =>
   rw [run] at h
   conv=>lhs;rw [run]
   conv=>rhs;rw [run]
   refine (bind_mono h (ih _ _) fun a r h2=>need_mono h2 fun r2 h3=>bind_mono h3 (ih _ _) fun b r3 h4=>?_);split
   ·rename_i q;rw [if_pos q] at h4;exact ih _ _ h4
   ·rfl
  | pf =>
   rw [run] at h
   conv=>lhs;rw [run]
   conv=>rhs;rw [run]
   split
   ·rename_i q;rw [if_pos q] at h;exact bind_mono h (ih _ _) fun _ _ _=>rfl
   ·rename_i q;rw [if_neg q] at h;exact ih _ _ h
  | pr =>
   rw [run] at h
   conv=>lhs;rw [run]
   conv=>rhs;rw [run]
   split
   ·rfl
   ·rename_i q;rw [if_neg q] at h;split
    ·rename_i q2;rw [if_pos q2] at h;exact ih _ _ h
    ·rename_i q2;rw [if_neg q2] at h;exact need_mono h fun r h2=>bind_mono h2 (ih _ _) fun _ _ _=>rfl
  | nm s =>
   rw [run] at h
   conv=>lhs;rw [run]
   conv=>rhs;rw [run]
   split
   ·rfl
   ·rename_i q;rw [if_neg q] at h;split
    ·rename_i q2;rw [if_pos q2] at h;exact bind_mono h (ih _ _) fun _ _ _=>rfl
    ·rename_i q2;rw [if_neg q2] at h;split
     ·rename_i q3;rw [if_pos q3] at h;exact bind_mono h (ih _ _) fun _ _ _=>rfl
     ·rfl
theorem run_up {f g:Nat} {j:Jb} {l:List Tk} (h:run f j l≠.out) (hg:f≤g):run g j l=run f j l:=by
 obtain⟨d,rfl⟩:∃ d,g=f+d:=⟨g - f,by omega⟩;induction d with
 | zero=>rfl
 | succ d ih=>rw [←Nat.add_assoc,run_mono _ _ _ (by rw [ih (by omega)];exact h),ih (by omega)]
theorem bind_ok {x:Rs} {g:Ex→List Tk→Rs} {e:Ex} {r:List Tk} (h:x.bind g=.ok e r):∃ e1 r1,x=.ok e1 r1∧g e1 r1=.ok e r:=by
 cases x with
 | ok e1 r1=>exact⟨e1,r1,rfl,h⟩
 | bad _ _=>cases h
 | out=>cases h
theorem need_ok {m:List UInt8} {l:List Tk} {g:List Tk→Rs} {e:Ex} {r:List Tk} (h:need m l g=.ok e r):tx l=m∧g l.tail=.ok e r:=by
 unfold need at h;split at h
 ·exact⟨by assumption,h⟩
 ·cases h
theorem nameR_ok {l:List Tk} {g:List UInt8→List Tk→Rs} {e:Ex} {r:List Tk} (h:nameR l g=.ok e r):kd l=1∧g (tx l) l.tail=.ok e r:=by
 unfold nameR at h;split at h
 ·exact⟨by assumption,h⟩
 ·cases h
theorem numR_ok {l:List Tk} {g:Int→List Tk→Rs} {e:Ex} {r:List Tk} (h:numR l g=.ok e r):kd l=3∧nmr l≤65535∧g (nmr l) l.tail=.ok e r:=by
 unfold numR at h;split at h
 ·split at h
  ·cases h
  ·exact⟨by assumption,by omega,h⟩
 ·cases h
theorem tl_len (l:List Tk):l.tail.length=l.length - 1:=List.length_tail
theorem tx_pos {l:List Tk} {m:List UInt8} (h:tx l=m) (hm:m≠[]):0<l.length:=by
 cases l with
 | nil=>exact absurd h.symm hm
 | cons _ _=>simp
theorem kd_pos {l:List Tk} {k:Int} (h:kd l=k) (hk:k≠0):0<l.length:=by
 cases l with
 | nil=>exact absurd h.symm hk
 | cons _ _=>simp
theorem bT_pos {l:List Tk} (h:(bT (tx l)).1≠0):0<l.length:=by
 cases l with
 | nil=>exact absurd rfl h
 | cons _ _=>simp
theorem pT_pos {l:List Tk} (h:pT (tx l)≠0):0<l.length:=by
 cases l with
 | nil=>exact absurd rfl h
 | cons _ _=>simp
def tk1:Jb→Nat | .lp _ _ _=>0 | .nm _=>0 | _=>1
theorem run_len:∀ (f:Nat) (j:Jb) (l:List Tk) (e:Ex) (r:List Tk),run f j l=.ok e r→r.length+tk1 j≤l.length:=by
 intro f;induction f with
 | zero=>intro j l e r h;cases h
 | succ f ih =>
  intro j l e r h;cases j with
  | ch =>
   rw [run] at h;obtain⟨c,r1,h1,h⟩:=bind_ok h;have k1:=ih _ _ _ _ h1;split at h
   ·obtain⟨a,r2,h2,h⟩:=bind_ok h;obtain⟨_,h⟩:=need_ok h;obtain⟨b,r3,h3,h⟩:=bind_ok h;have k2:=ih _ _ _ _ h2;have k3:=ih _ _ _ _ h3;cases h;simp only [tk1,tl_len] at *;omega
   ·cases h;simp only [tk1] at *;omega
  | op lv =>
   rw [run] at h;obtain⟨c,r1,h1,h⟩:=bind_ok h;have k1:=ih _ _ _ _ h1;have k2:=ih _ _ _ _ h;simp only [tk1] at *;omega
  | lp lv rc e0 =>
   rw [run] at h;split at h
   ·obtain⟨c,r1,h1,h⟩:=bind_ok h;have k1:=ih _ _ _ _ h1;have k2:=ih _ _ _ _ h;simp only [tk1,tl_len] at *;omega
   ·split at h
    ·obtain⟨c,r1,h1,h⟩:=bind_ok h;have k1:=ih _ _ _ _ h1;have k2:=ih _ _ _ _ h;simp only [tk1,tl_len] at *;omega
    ·cases h;simp only [tk1] at *;omega
  | jn k o sw e0 =>
   rw [run] at h;obtain⟨c,r1,h1,h⟩:=bind_ok h;have k1:=ih _ _ _ _ h1;cases h;simp only [tk1] at *;omega
  | rg e0 =>
   rw [run] at h;obtain⟨q,h⟩:=need_ok h;have k1:=ih _ _ _ _ h;have:=tx_pos q (by decide);simp only [tk1,tl_len] at *;omega
  | rl acc =>
   rw [run] at h;obtain⟨a,r1,h1,h⟩:=bind_ok h;obtain⟨_,h⟩:=need_ok h;obtain⟨b,r2,h2,h⟩:=bind_ok h;have k1:=ih _ _ _ _ h1;have k2:=ih _ _ _ _ h2;split at h
   ·have k3:=ih _ _ _ _ h;simp only [tk1,tl_len] at *;omega
   ·obtain⟨_,h⟩:=need_ok h;cases h;simp only [tk1,tl_len] at *;omega
  | pf =>
   rw [run] at h;split at h
   ·rename_i q;obtain⟨c,r1,h1,h⟩:=bind_ok h;have k1:=ih _ _ _ _ h1;have:=pT_pos q;cases h;simp only [tk1,tl_len] at *;omega
   ·have k1:=ih _ _ _ _ h;simp only [tk1] at *;omega
  | pr =>
   rw [run] at h;split at h
   ·obtain⟨q,_,h⟩:=numR_ok h;have:=kd_pos q (by decide);cases h;simp only [tk1,tl_len] at *;omega
   ·split at h
    ·rename_i q;have:=kd_pos q (by decide);have k1:=ih _ _ _ _ h;simp only [tk1,tl_len] at *;omega
    ·obtain⟨q,h⟩:=need_ok h;obtain⟨c,r1,h1,h⟩:=bind_ok h;obtain⟨_,h⟩:=need_ok h;have:=tx_pos q (by decide);have k1:=ih _ _ _ _ h1;cases h;simp only [tk1,tl_len] at *;omega
  | nm s =>
   rw [run] at h;split at h
   ·obtain⟨_,h⟩:=nameR_ok h;obtain⟨_,h⟩:=need_ok h;cases h;simp only [tk1,tl_len] at *;omega
   ·split at h
    ·obtain⟨c,r1,h1,h⟩:=bind_ok h;obtain⟨_,h⟩:=need_ok h;have k1:=ih _ _ _ _ h1;cases h;simp only [tk1,tl_len] at *;omega
    ·split at h
     ·obtain⟨c,r1,h1,h⟩:=bind_ok h;obtain⟨_,h⟩:=need_ok h;have k1:=ih _ _ _ _ h1;cases h;simp only [tk1,tl_len] at *;omega
     ·split at h
      ·obtain⟨_,_,h⟩:=numR_ok h;cases h;simp only [tk1,tl_len] at *;omega
      ·cases h;simp only [tk1] at *;omega
def fuelJ (n:Nat):Jb→Nat
 | .ch=>8*n+7 | .op _=>8*n+6 | .pf=>8*n+5 | .pr=>8*n+4 | .nm _=>8*n+3 | .lp _ _ _=>8*n+2 | .jn _ _ _ _=>8*n+7 | .rg _=>8*n+1 | .rl _=>8*n+8
theorem bind_tot {x:Rs} {g:Ex→List Tk→Rs} (h:x≠.out) (hg:∀ e r,x=.ok e r→g e r≠.out):x.bind g≠.out:=by
 cases x with
 | ok e r=>exact hg e r rfl
 | bad _ _=>intro e;cases e
 | out=>exact absurd rfl h
theorem flt_ne (l:List Tk):flt l≠.out:=by unfold flt;intro e;cases e
theorem need_tot {m:List UInt8} {l:List Tk} {g:List Tk→Rs} (hg:tx l=m→g l.tail≠.out):need m l g≠.out:=by
 unfold need;split
 ·exact hg (by assumption)
 ·exact flt_ne l
theorem nameR_tot {l:List Tk} {g:List UInt8→List Tk→Rs} (hg:g (tx l) l.tail≠.out):nameR l g≠.out:=by
 unfold nameR;split
 ·exact hg
 ·exact flt_ne l
theorem numR_tot {l:List Tk} {g:Int→List Tk→Rs} (hg:g (nmr l) l.tail≠.out):numR l g≠.out:=by
 unfold numR;split
 ·split
  ·intro e;cases e
  ·exact hg
 ·exact flt_ne l
theorem ok_ne {e:Ex} {r:List Tk}:Rs.ok e r≠.out:=fun h=>by cases h
theorem run_tot:∀ (f:Nat) (j:Jb) (l:List Tk),fuelJ l.length j≤f→run f j l≠.out:=by
 intro f;induction f with
 | zero=>intro j l h;cases j<;>simp only [fuelJ] at h<;>omega
 | succ f ih =>
  intro j l h;cases j with
  | ch =>
   simp only [fuelJ] at h;rw [run];refine (bind_tot (ih _ _ (by simp only [fuelJ];omega)) fun c r h1=>?_);have k1:=run_len _ _ _ _ _ h1;simp only [tk1] at k1;split
   ·refine (bind_tot (ih _ _ (by simp only [fuelJ,tl_len];omega)) fun a r2 h2=>need_tot fun q2=>bind_tot (ih _ _ ?_) fun b r3 h3=>ok_ne);have k2:=run_len _ _ _ _ _ h2;simp only [fuelJ,tk1,tl_len] at *;omega
   ·exact ok_ne
  | op lv =>
   simp only [fuelJ] at h;rw [run];refine (bind_tot (ih _ _ (by simp only [fuelJ];omega)) fun c r h1=>ih _ _ ?_);have k1:=run_len _ _ _ _ _ h1;simp only [fuelJ,tk1] at *;omega
  | lp lv rc e0 =>
   simp only [fuelJ] at h;rw [run];split
   ·rename_i q;have:=bT_pos q.1;refine (bind_tot (ih _ _ (by simp only [fuelJ,tl_len];omega)) fun c r h1=>ih _ _ ?_);have k1:=run_len _ _ _ _ _ h1;simp only [fuelJ,tk1,tl_len] at *;omega
   ·split
    ·rename_i q;have:=tx_pos q.2 (by decide);refine (bind_tot (ih _ _ (by simp only [fuelJ,tl_len];omega)) fun c r h1=>ih _ _ ?_);have k1:=run_len _ _ _ _ _ h1;simp only [fuelJ,tk1,tl_len] at *;omega
    ·exact ok_ne
  | jn k o sw e0 =>
   simp only [fuelJ] at h;rw [run];exact bind_tot (ih _ _ (by simp only [fuelJ];omega)) fun c r h1=>ok_ne
  | rg e0 =>
   simp only [fuelJ] at h;rw [run];refine (need_tot fun q=>ih _ _ ?_);have:=tx_pos q (by decide);simp only [fuelJ,tl_len];omega
  | rl acc =>
   simp only [fuelJ] at h;rw [run];refine bind_tot (ih _ _ (by simp only [fuelJ];omega)) fun a r h1=>need_tot fun q=>bind_tot (ih _ _ ?_) fun b r3 h3=>?_
   ·have k1:=run_len _ _ _ _ _ h1;simp only [fuelJ,tk1,tl_len] at *;omega
   ·split
    ·refine ih _ _ ?_;have k1:=run_len _ _ _ _ _ h1;have k3:=run_len _ _ _ _ _ h3;simp only [fuelJ,tk1,tl_len] at *;omega
    ·exact need_tot fun _=>ok_ne
  | pf =>
   simp only [fuelJ] at h;rw [run];split
   ·rename_i q;have:=pT_pos q;exact bind_tot (ih _ _ (by simp only [fuelJ,tl_len];omega)) fun c r h1=>ok_ne
   ·exact ih _ _ (by simp only [fuelJ];omega)
  | pr =>
   simp only [fuelJ] at h;rw [run];split
   ·exact numR_tot ok_ne
   ·split
    ·rename_i q;have:=kd_pos q (by decide);exact ih _ _ (by simp only [fuelJ,tl_len];omega)
    ·refine (need_tot fun q=>bind_tot (ih _ _ ?_) fun c r h1=>need_tot fun _=>ok_ne);have:=tx_pos q (by decide);simp only [fuelJ,tl_len];omega
  | nm s =>
   simp only [fuelJ] at h;rw [run];split
   ·exact nameR_tot (need_tot fun _=>ok_ne)
   ·split
    ·rename_i q;have:=tx_pos q.2 (by decide);exact bind_tot (ih _ _ (by simp only [fuelJ,tl_len];omega)) fun c r h1=>need_tot fun _=>ok_ne
    ·split
     ·rename_i q;have:=tx_pos q (by decide);exact bind_tot (ih _ _ (by simp only [fuelJ,tl_len];omega)) fun c r h1=>need_tot fun _=>ok_ne
     ·split
      ·exact numR_tot ok_ne
      ·exact ok_ne
def res (j:Jb) (l:List Tk):Rs:=run (fuelJ l.length j) j l
theorem res_ne (j:Jb) (l:List Tk):res j l≠.out:=run_tot _ _ _ (Nat.le_refl _)
theorem res_of {f:Nat} {j:Jb} {l:List Tk} (h:run f j l≠.out):run f j l=res j l:=by
 rcases Nat.le_total f (fuelJ l.length j) with g | g
 ·exact (run_up h g).symm
 ·exact run_up (res_ne j l) g
end EtM
end Go.Proofs.YtihnejaopejbgaaGreatDoor
