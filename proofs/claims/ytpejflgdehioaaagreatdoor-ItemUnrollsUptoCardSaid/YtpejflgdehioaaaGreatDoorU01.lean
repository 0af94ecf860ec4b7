/-
  Laws that the card uses; no conditions beside those that each states (NumMath NumText LexMath LexSmall ExLexSpan LexParse ExLexFour).
-/
import Derived.IntWalk
import Derived.Laws.Bits64
import Derived.Lib.ItoaNum
import Derived.Lib.AtoiAll
import Derived.Lib.Strings
import Derived.Test.YtpejflgdehioaaaGreatDoorRows
import Derived.WalkKit
import Derived.Outline
import Derived.WalkSpells
import Derived.Deep.DeepFit
import Derived.Lib.Hide
import Derived.LoopTactic
import Derived.Deep.QuietTactic
import Derived.BigQuiet
import Derived.Lib.MapLaws
import Derived.Laws.RangeAny
import Derived.Test.YtpejflgdehioaaaGreatDoorNumShelf
import Derived.Lib.SmallJoins
import Derived.WalkSmall
set_option maxRecDepth 100000
set_option maxHeartbeats 16000000
namespace Go.Proofs.YtpejflgdehioaaaGreatDoor
open Go
theorem Lh {p : Prop} (h : p) : RowKit.Hid p := h
namespace NumM
open Go Go.RowKit
def okI (x:Int):Bool:=decide (-9223372036854775808≤x∧x≤9223372036854775807)
def lim (x:Int):Int × Int:=if okI x then (x,0) else (0,3)
theorem okI_iff {x:Int}:okI x=true↔-9223372036854775808≤x∧x≤9223372036854775807:=by simp [okI]
theorem okI_no {x:Int}:okI x=false↔x < -9223372036854775808∨9223372036854775807<x:=by
 unfold okI;rw [decide_eq_false_iff_not];omega
theorem lim_ok {x:Int} (h:okI x=true):lim x=(x,0):=by simp [lim,h]
theorem lim_no {x:Int} (h:okI x=false):lim x=(0,3):=by simp [lim,h]
def dgt (c:UInt8):Bool:=decide (48≤c.toNat)&&decide (c.toNat≤57)
def minus (l:List UInt8):Bool:=l.head? == some 45
def tl (l:List UInt8):List UInt8:=if minus l then l.tail else l
def vl (acc:Nat) (l:List UInt8):Nat:=l.foldl (fun a c=>a*10+(c.toNat - 48)) acc
def isDec (l:List UInt8):Bool:=(tl l).all dgt&&!(tl l).isEmpty&&!((tl l).head? == some 48&&!(l == [48]))
def valS (l:List UInt8):Int:=if minus l then -(vl 0 (tl l):Int) else (vl 0 (tl l):Int)
def parseS (l:List UInt8):Int × Int:=if isDec l then lim (valS l) else (0,5)
theorem trim_eq (l:List UInt8):Lib.trimPrefix l [45]=tl l:=by
 unfold Lib.trimPrefix tl minus Lib.hasPrefix;cases l with
 | nil=>rfl
 | cons c r =>
  by_cases h:c=45
  ·subst h;simp
  ·simp [h,show ¬ 45=c from fun x=>h x.symm]
theorem vl_nil (acc:Nat):vl acc []=acc:=List.foldl_nil
theorem vl_cons (acc:Nat) (c:UInt8) (r:List UInt8):vl acc (c::r)=vl (acc*10+(c.toNat - 48)) r:=List.foldl_cons ..
theorem vl_ge (l:List UInt8) (acc:Nat):acc≤vl acc l:=by
 induction l generalizing acc with
 | nil=>exact Nat.le_refl _
 | cons d r ih =>
  have:=ih (acc*10+(d.toNat - 48));rw [vl_cons];omega
theorem vl_append (a b:List UInt8) (acc:Nat):vl acc (a++b)=vl (vl acc a) b:=List.foldl_append ..
theorem dgt_iff {c:UInt8}:dgt c=true↔48≤c.toNat∧c.toNat≤57:=by simp [dgt]
theorem tl_length (l:List UInt8):(tl l).length≤l.length:=by
 unfold tl;split
 ·rw [List.length_tail];omega
 ·exact Nat.le_refl _
theorem dgt_at {d:ByteArray} {l:List UInt8} (hd:d.data.toList=tl l) (h:(tl l).all dgt=true) {k:Nat} (hk:k<d.size) :
  48≤d[k].toNat∧d[k].toNat≤57:=by
 rw [←hd] at h;have hm:d[k]∈d.data.toList:=by
  have:d.data.toList[k]'(by simpa using hk)=d[k]:=rfl;rw [←this];exact List.getElem_mem _
 exact dgt_iff.1 (List.all_eq_true.1 h _ hm)
theorem head_at {d:ByteArray} {l:List UInt8} (hd:d.data.toList=tl l) (hk:0<d.size):(tl l).head? = some d[0]:=by
 rw [←hd];have h:0<d.data.toList.length:=(by simpa using hk);rw [List.head?_eq_getElem?,List.getElem?_eq_getElem h];rfl
theorem str_no {s:ByteArray} (h:s.data.toList=[48]):(!s.toList == [48])=false:=by rw [Lib.toList_data,h];rfl
theorem str_yes {s:ByteArray} (h:s.data.toList≠[48]):(!s.toList == [48])=true:=by rw [Lib.toList_data];simpa using h
theorem isDec_of {l:List UInt8} (h1:(tl l).all dgt=true) (h2:tl l≠[]) (h3:¬ ((tl l).head? = some 48∧l≠[48])):isDec l=true:=by
 unfold isDec;rw [h1];by_cases a:(tl l).head? = some 48
 ·have b:l=[48]:=by
   apply Classical.byContradiction;intro x;exact h3 ⟨a,x⟩
  subst b;decide
 ·simp [h2,a]
theorem parseUint10_eq (l:List UInt8):∀ acc:Nat,l.all dgt=true→acc<18446744073709551616 →
  Lib.parseUint10 acc l=if vl acc l<18446744073709551616 then .ok (vl acc l) else .range:=by
 induction l with
 | nil=>intro acc _ ha;rw [vl_nil,if_pos ha];rfl
 | cons c r ih =>
  intro acc hd ha;simp only [List.all_cons,Bool.and_eq_true] at hd;have hc:=dgt_iff.1 hd.1;simp only [Lib.parseUint10,hc,and_self,if_true];rw [vl_cons];have hg:=vl_ge r (acc*10+(c.toNat - 48));by_cases h1:1844674407370955162≤acc
  ·rw [if_pos h1,if_neg (by omega)]
  ·rw [if_neg h1];by_cases h2:18446744073709551616≤acc*10+(c.toNat - 48)
   ·rw [if_pos h2,if_neg (by omega)]
   ·rw [if_neg h2];exact ih _ hd.2 (by omega)
theorem isDec_parts {l:List UInt8} (h:isDec l=true):(tl l).all dgt=true∧tl l≠[]∧((tl l).head? = some 48→l=[48]):=by
 unfold isDec at h;simp only [Bool.and_eq_true,Bool.not_eq_true',List.isEmpty_eq_false_iff,Bool.and_eq_false_iff,beq_eq_false_iff_ne,ne_eq,Bool.not_eq_false',beq_iff_eq] at h;exact⟨h.1.1,h.1.2,fun x=>by rcases h.2 with y | y;exact absurd x y;exact y⟩
theorem parseMag_eq {t:List UInt8} (h:t.all dgt=true) (hn:t≠[]) :
  Lib.parseMag t=if vl 0 t<18446744073709551616 then .ok (vl 0 t) else .range:=by
 unfold Lib.parseMag;rw [if_neg hn];exact parseUint10_eq t 0 h (by decide)
theorem atoi_eq {l:List UInt8} (h:isDec l=true):Lib.atoiAll l=if okI (valS l) then .ok (valS l) else .range:=by
 obtain⟨hd,hn,_⟩:=isDec_parts h;cases l with
 | nil=>exact absurd rfl hn
 | cons c r =>
  by_cases hm:c=45
  ·subst hm;have e:tl (45::r)=r:=rfl;have m:minus (45::r)=true:=rfl;rw [e] at hd hn;simp only [Lib.atoiAll,valS,m,e,if_true];rw [if_pos (by right;rfl),parseMag_eq hd hn];by_cases h1:vl 0 r<18446744073709551616
   ·rw [if_pos h1];by_cases h2:9223372036854775808<vl 0 r
    ·rw [show okI (-(vl 0 r:Int))=false from okI_no.2 (by omega)];simp [h2]
    ·rw [show okI (-(vl 0 r:Int))=true from okI_iff.2 (by omega)];simp [h2]
   ·rw [if_neg h1,show okI (-(vl 0 r:Int))=false from okI_no.2 (by omega)];rfl
  ·have e:tl (c::r)=c::r:=(by simp [tl,minus,hm]);have m:minus (c::r)=false:=(by simp [minus,hm]);have hc:¬ c.toNat=45:=(fun x=>hm (by rw [←UInt8.toNat_inj,x];rfl));rw [e] at hd hn;have hc2:=(dgt_iff.1 (by simp only [List.all_cons,Bool.and_eq_true] at hd;exact hd.1:dgt c=true)).1;simp only [Lib.atoiAll,valS,m,e,Bool.false_eq_true,if_false];rw [if_neg (by omega),parseMag_eq hd hn];by_cases h1:vl 0 (c::r)<18446744073709551616
   ·rw [if_pos h1];by_cases h2:9223372036854775808≤vl 0 (c::r)
    ·rw [show okI ((vl 0 (c::r):Nat):Int)=false from okI_no.2 (by omega)];simp [h2,hc]
    ·rw [show okI ((vl 0 (c::r):Nat):Int)=true from okI_iff.2 (by omega)];simp [h2,hc]
   ·rw [if_neg h1,show okI ((vl 0 (c::r):Nat):Int)=false from okI_no.2 (by omega)];rfl
end NumM
namespace LexM
open Go Go.RowKit NumM
def sml (c:UInt8):Bool:=decide (97≤c.toNat)&&decide (c.toNat≤122)
def capl (c:UInt8):Bool:=decide (65≤c.toNat)&&decide (c.toNat≤90)
def wrd (c:UInt8):Bool:=sml c||dgt c||capl c||decide (c.toNat=95)
def kws:List (List UInt8):=[[99,108,97,115,115],[101,120,116,101,110,100,115],[114,97,110,100],[114,97,110,100,99],[115,116,97,116,101],[99,111,110,115,116,114,97,105,110,116],[115,111,102,116],[100,105,115,116],[105,102],[101,108,115,101],[101,97,99,104],[105,110],[115,111,108,118,101],[98,101,102,111,114,101],[105,110,115,105,100,101],[112,114,111,112,101,114,116,121],[115,101,113],[97,110,100],[111,114],[110,111,116],[115,101,116],[104,111,108,100],[112,108,97,105,110],[114,101,112,101,97,116]]
def mks:List (List UInt8):=[[40],[41],[123],[125],[91],[93],[44],[59],[58],[46,46],[63],[61],[61,61],[33,61],[60],[60,61],[62],[62,61],[60,60],[62,62],[43],[45],[42],[38],[124],[94],[126],[33],[38,38],[124,124],[45,62],[61,62],[58,61],[58,47],[35,35],[64]]
def isKw (l:List UInt8):Bool:=decide (l∈kws)
def isMk (l:List UInt8):Bool:=decide (l∈mks)
structure Tk where
 kind:Int
 n:Int
 text:List UInt8
 line:Int
def zTk:Tk:=⟨0,0,[],0⟩
def Tk.at (t:Tk) (ln:Int):Tk:=⟨t.kind,t.n,t.text,ln⟩
def wordS (l:List UInt8):List UInt8:=l.takeWhile wrd
def markT (l:List UInt8):Tk × Int:=if isMk (l.take 2) then (⟨4,0,l.take 2,0⟩,0) else if isMk (l.take 1) then (⟨4,0,l.take 1,0⟩,0) else (zTk,5)
def nameT (t:List UInt8):Tk × Int:=if 16<t.length then (zTk,2) else (⟨if isKw t then 2 else 1,0,t,0⟩,0)
def numT (t:List UInt8):Tk × Int:=if (parseS t).2=0 then (if 2147483647<(parseS t).1 then (zTk,3) else (⟨3,(parseS t).1,t,0⟩,0)) else (zTk,(parseS t).2)
def firstS (l:List UInt8):Tk × Int:=match wordS l with | []=>markT l | c::r=>if sml c then nameT (c::r) else if dgt c then numT (c::r) else (zTk,5)
theorem mk_facts:∀ m∈mks,m≠[]∧m.length≤2∧m.head?≠some 47∧(m.all fun c=>!wrd c&&decide (c.toNat≠10∧c.toNat≠32∧c.toNat≠9∧c.toNat<128))=true:=by decide
theorem mk_byte {m:List UInt8} (h:isMk m=true) {c:UInt8} (hc:c∈m):wrd c=false∧c.toNat≠10∧c.toNat≠32∧c.toNat≠9∧c.toNat<128:=by
 have:=List.all_eq_true.1 (mk_facts m (of_decide_eq_true h)).2.2.2 c hc
 simpa using this
theorem wrd_facts {c:UInt8} (h:wrd c=true):c.toNat≠10∧c.toNat≠32∧c.toNat≠9∧c.toNat<128∧c.toNat≠47:=by
 simp [wrd,sml,dgt,capl] at h;omega
theorem mk_nil:isMk []=false:=by decide
theorem first_mark {l:List UInt8} (h:wordS l=[]):firstS l=markT l:=by unfold firstS;rw [h]
theorem first_word {l:List UInt8} {c:UInt8} {r:List UInt8} (h:wordS l=c::r):firstS l=if sml c then nameT (c::r) else if dgt c then numT (c::r) else (zTk,5):=by unfold firstS;rw [h]
theorem word_pre (l:List UInt8):wordS l=l.take (wordS l).length:=by
 unfold wordS;have h:l.takeWhile wrd <+: l:=List.takeWhile_prefix wrd;exact (List.prefix_iff_eq_take.1 h)
theorem word_all (l:List UInt8):∀ c∈wordS l,wrd c=true:=fun c hc=>by
 have:=List.all_takeWhile (p:=wrd) (l:=l);exact List.all_eq_true.1 this c hc
structure Good (l:List UInt8) (t:Tk):Prop where
 ne:t.text≠[]
 pre:t.text=l.take t.text.length
 byte:∀ c∈t.text,c.toNat≠10∧c.toNat≠32∧c.toNat≠9∧c.toNat<128
 head:t.text.head?≠some 47
 line:t.line=0
theorem good_mark {l:List UInt8} (h:(markT l).2=0):Good l (markT l).1:=by
 unfold markT at h ⊢;by_cases h2:isMk (l.take 2)=true
 ·rw [if_pos h2];have f:=mk_facts _ (of_decide_eq_true h2);refine⟨f.1,?_,fun c hc=>(mk_byte h2 hc).2,f.2.2.1,rfl⟩;rw [List.length_take];by_cases hl:2≤l.length
  ·rw [Nat.min_eq_left hl]
  ·rw [Nat.min_eq_right (by omega),List.take_of_length_le (by omega),List.take_of_length_le (by omega)]
 ·rw [if_neg h2] at h ⊢;by_cases h1:isMk (l.take 1)=true
  ·rw [if_pos h1];have f:=mk_facts _ (of_decide_eq_true h1);refine⟨f.1,?_,fun c hc=>(mk_byte h1 hc).2,f.2.2.1,rfl⟩;rw [List.length_take];by_cases hl:1≤l.length
   ·rw [Nat.min_eq_left hl]
   ·rw [Nat.min_eq_right (by omega),List.take_of_length_le (by omega),List.take_of_length_le (by omega)]
  ·rw [if_neg h1] at h;simp at h
theorem good_word {l:List UInt8} {c:UInt8} {r:List UInt8} (h:wordS l=c::r) {t:Tk} (ht:t.text=c::r) (hl:t.line=0):Good l t:=by
 have hall:=word_all l;have hp:=word_pre l;rw [h] at hall hp;refine⟨by rw [ht];simp,by rw [ht];exact hp,fun d hd=>?_,?_,hl⟩
 ·rw [ht] at hd;have:=wrd_facts (hall d hd);exact⟨this.1,this.2.1,this.2.2.1,this.2.2.2.1⟩
 ·rw [ht];intro e;have e2:c=47:=(by simpa using e);exact (wrd_facts (hall c (by simp))).2.2.2.2 (by rw [e2];rfl)
theorem first_good {l:List UInt8} (h:(firstS l).2=0):Good l (firstS l).1:=by
 cases hw:wordS l with
 | nil =>
  rw [first_mark hw] at h ⊢;exact good_mark h
 | cons c r =>
  have e:=first_word hw;rw [e] at h ⊢;by_cases hs:sml c=true
  ·rw [if_pos hs] at h ⊢;unfold nameT at h ⊢;by_cases h16:16<(c::r).length
   ·rw [if_pos h16] at h;simp at h
   ·rw [if_neg h16];exact good_word hw rfl rfl
  ·rw [if_neg hs] at h ⊢;by_cases hd:dgt c=true
   ·rw [if_pos hd] at h ⊢;unfold numT at h ⊢;by_cases hp:(parseS (c::r)).2=0
    ·rw [if_pos hp] at h ⊢;by_cases hm:2147483647<(parseS (c::r)).1
     ·rw [if_pos hm] at h;simp at h
     ·rw [if_neg hm];exact good_word hw rfl rfl
    ·rw [if_neg hp] at h;exact absurd h hp
   ·rw [if_neg hd] at h;simp at h
def validS (t:Tk):Bool:=decide ((firstS t.text).2=0)&&(decide ((firstS t.text).1.kind=t.kind)&&(decide ((firstS t.text).1.n=t.n)&&decide ((firstS t.text).1.text=t.text)))
theorem valid_iff {t:Tk}:validS t=true↔firstS t.text=(⟨t.kind,t.n,t.text,0⟩,0):=by
 constructor
 ·intro h;simp only [validS,Bool.and_eq_true,decide_eq_true_eq] at h;obtain⟨h0,h1,h2,h3⟩:=h;have h4:=(first_good h0).line;rcases hf:firstS t.text with ⟨⟨k,n,x,ln⟩,e⟩
  rw [hf] at h0 h1 h2 h3 h4;simp only at h0 h1 h2 h3 h4;rw [h0,h1,h2,h3,h4]
 ·intro h;simp [validS,h]
end LexM
namespace LexW
open Go Go.RowKit NumM LexM
theorem retb {a b:Bool} (h:a=b):Ending.returned (.bool a)=.returned (.bool b):=by rw [h]
def smI (c:Int):Bool:=decide (97≤c)&&decide (c≤122)
def dgI (c:Int):Bool:=decide (48≤c)&&decide (c≤57)
theorem isSmall_any (c:Int) (w:World):Calls Tryz.prog 193 #[.int .i32 c] w fun e w'=>e=.returned (.bool (smI c))∧w=w':=by
 by_cases h1:97≤c
 ·by_cases h2:c≤122
  all_goals
   go_enter Tryz.func193,Tryz.ntmps193
   go_wp2;go_ret;exact⟨retb (by simp [smI,h1,h2]),rfl⟩
 ·have h2:(smI c)=false:=by simp [smI];omega
  go_enter Tryz.func193,Tryz.ntmps193
  go_wp2;go_ret;exact⟨rfl,rfl⟩
theorem isDigit_any (c:Int) (w:World):Calls Tryz.prog 195 #[.int .i32 c] w fun e w'=>e=.returned (.bool (dgI c))∧w=w':=by
 by_cases h1:48≤c
 ·by_cases h2:c≤57
  all_goals
   go_enter Tryz.func195,Tryz.ntmps195
   go_wp2;go_ret;exact⟨retb (by simp [dgI,h1,h2]),rfl⟩
 ·have h2:(dgI c)=false:=by simp [dgI];omega
  go_enter Tryz.func195,Tryz.ntmps195
  go_wp2;go_ret;exact⟨rfl,rfl⟩
theorem smallR_any (c:Int) (w:World):Calls Tryz.prog 78 #[.int .u8 c] w fun e w'=>e=.returned (.bool (smI c))∧w=w':=by
 by_cases h1:97≤c
 ·by_cases h2:c≤122
  all_goals
   go_enter Tryz.func78,Tryz.ntmps78
   go_wp2;go_ret;exact⟨retb (by simp [smI,h1,h2]),rfl⟩
 ·have h2:(smI c)=false:=by simp [smI];omega
  go_enter Tryz.func78,Tryz.ntmps78
  go_wp2;go_ret;exact⟨rfl,rfl⟩
theorem digitR_any (c:Int) (w:World):Calls Tryz.prog 124 #[.int .u8 c] w fun e w'=>e=.returned (.bool (dgI c))∧w=w':=by
 by_cases h1:48≤c
 ·by_cases h2:c≤57
  all_goals
   go_enter Tryz.func124,Tryz.ntmps124
   go_wp2;go_ret;exact⟨retb (by simp [dgI,h1,h2]),rfl⟩
 ·have h2:(dgI c)=false:=by simp [dgI];omega
  go_enter Tryz.func124,Tryz.ntmps124
  go_wp2;go_ret;exact⟨rfl,rfl⟩
theorem isKeyword_no (s:ByteArray) (w:World) (h:isKw s.data.toList=false):Calls Tryz.prog 205 #[.string s] w fun e w'=>e=.returned (.bool (isKw s.data.toList))∧w=w':=by
 have hn:∀ k∈kws,(s.toList == k)=false:=fun k hk=>by
  have:=of_decide_eq_false h;rw [Lib.toList_data,beq_eq_false_iff_ne];rintro rfl;exact this hk
 have n0:=hn [99,108,97,115,115] (by decide);have n1:=hn [101,120,116,101,110,100,115] (by decide);have n2:=hn [114,97,110,100] (by decide);have n3:=hn [114,97,110,100,99] (by decide);have n4:=hn [115,116,97,116,101] (by decide);have n5:=hn [99,111,110,115,116,114,97,105,110,116] (by decide);have n6:=hn [115,111,102,116] (by decide);have n7:=hn [100,105,115,116] (by decide);have n8:=hn [105,102] (by decide);have n9:=hn [101,108,115,101] (by decide);have n10:=hn [101,97,99,104] (by decide);have n11:=hn [105,110] (by decide);have n12:=hn [115,111,108,118,101] (by decide);have n13:=hn [98,101,102,111,114,101] (by decide);have n14:=hn [105,110,115,105,100,101] (by decide);have n15:=hn [112,114,111,112,101,114,116,121] (by decide);have n16:=hn [115,101,113] (by decide);have n17:=hn [97,110,100] (by decide);have n18:=hn [111,114] (by decide);have n19:=hn [110,111,116] (by decide);have n20:=hn [115,101,116] (by decide);have n21:=hn [104,111,108,100] (by decide);have n22:=hn [112,108,97,105,110] (by decide);have n23:=hn [114,101,112,101,97,116] (by decide);have H:=Lh h;clear h hn
 go_enter Tryz.func205,Tryz.ntmps205
 go_wp2;go_ret;exact⟨retb H.out.symm,rfl⟩
theorem isKeyword_yes (s:ByteArray) (w:World) (h:isKw s.data.toList=true):Calls Tryz.prog 205 #[.string s] w fun e w'=>e=.returned (.bool (isKw s.data.toList))∧w=w':=by
 have H:=Lh h;have h:=of_decide_eq_true h;simp only [kws,List.mem_cons,List.not_mem_nil,or_false] at h;rcases h with h | h | h | h | h | h | h | h | h | h | h | h | h | h | h | h | h | h | h | h | h | h | h | h
 all_goals
  have e:=(Lib.toList_data s).trans h;clear h
  go_enter Tryz.func205,Tryz.ntmps205
  go_wp2;go_ret;exact⟨retb H.out.symm,rfl⟩
theorem isKeyword_any (s:ByteArray) (w:World):Calls Tryz.prog 205 #[.string s] w fun e w'=>e=.returned (.bool (isKw s.data.toList))∧w=w':=by
 cases h:isKw s.data.toList
 ·rw [←h];exact isKeyword_no s w h
 ·rw [←h];exact isKeyword_yes s w h
theorem isMark_no (s:ByteArray) (w:World) (h:isMk s.data.toList=false):Calls Tryz.prog 204 #[.string s] w fun e w'=>e=.returned (.bool (isMk s.data.toList))∧w=w':=by
 have hn:∀ k∈mks,(s.toList == k)=false:=fun k hk=>by
  have:=of_decide_eq_false h;rw [Lib.toList_data,beq_eq_false_iff_ne];rintro rfl;exact this hk
 have n0:=hn [40] (by decide);have n1:=hn [41] (by decide);have n2:=hn [123] (by decide);have n3:=hn [125] (by decide);have n4:=hn [91] (by decide);have n5:=hn [93] (by decide);have n6:=hn [44] (by decide);have n7:=hn [59] (by decide);have n8:=hn [58] (by decide);have n9:=hn [46,46] (by decide);have n10:=hn [63] (by decide);have n11:=hn [61] (by decide);have n12:=hn [61,61] (by decide);have n13:=hn [33,61] (by decide);have n14:=hn [60] (by decide);have n15:=hn [60,61] (by decide);have n16:=hn [62] (by decide);have n17:=hn [62,61] (by decide);have n18:=hn [60,60] (by decide);have n19:=hn [62,62] (by decide);have n20:=hn [43] (by decide);have n21:=hn [45] (by decide);have n22:=hn [42] (by decide);have n23:=hn [38] (by decide);have n24:=hn [124] (by decide);have n25:=hn [94] (by decide);have n26:=hn [126] (by decide);have n27:=hn [33] (by decide);have n28:=hn [38,38] (by decide);have n29:=hn [124,124] (by decide);have n30:=hn [45,62] (by decide);have n31:=hn [61,62] (by decide);have n32:=hn [58,61] (by decide);have n33:=hn [58,47] (by decide);have n34:=hn [35,35] (by decide);have n35:=hn [64] (by decide);have H:=Lh h;clear h hn
 go_enter Tryz.func204,Tryz.ntmps204
 go_wp2;go_ret;exact⟨retb H.out.symm,rfl⟩
theorem isMark_yes (s:ByteArray) (w:World) (h:isMk s.data.toList=true):Calls Tryz.prog 204 #[.string s] w fun e w'=>e=.returned (.bool (isMk s.data.toList))∧w=w':=by
 have H:=Lh h;have h:=of_decide_eq_true h;simp only [mks,List.mem_cons,List.not_mem_nil,or_false] at h;rcases h with h | h | h | h | h | h | h | h | h | h | h | h | h | h | h | h | h | h | h | h | h | h | h | h | h | h | h | h | h | h | h | h | h | h | h | h
 all_goals
  have e:=(Lib.toList_data s).trans h;clear h
  go_enter Tryz.func204,Tryz.ntmps204
  go_wp2;go_ret;exact⟨retb H.out.symm,rfl⟩
theorem isMark_any (s:ByteArray) (w:World):Calls Tryz.prog 204 #[.string s] w fun e w'=>e=.returned (.bool (isMk s.data.toList))∧w=w':=by
 cases h:isMk s.data.toList
 ·rw [←h];exact isMark_no s w h
 ·rw [←h];exact isMark_yes s w h
theorem take_snoc (s:ByteArray) (k:Nat) (h:k<s.size):s.data.toList.take (k+1)=s.data.toList.take k++[s[k]]:=by
 rw [List.take_succ_eq_append_getElem (by simpa using h)];rfl
theorem len_data (s:ByteArray):s.data.toList.length=s.size:=by simp
theorem drop_cons (s:ByteArray) (k:Nat) (h:k<s.size):s.data.toList.drop k=s[k]::s.data.toList.drop (k+1):=by
 rw [List.drop_eq_getElem_cons (by simpa using h)];rfl
def wrI (c:Int):Bool:=smI c||(dgI c||((decide (65≤c)&&decide (c≤90))||(c == 95)))
theorem wrI_byte (c:UInt8):wrI (c.toNat:Int)=wrd c:=by
 rw [Bool.eq_iff_iff];simp [wrI,smI,dgI,wrd,sml,dgt,capl];omega
theorem wrI_high {c:Int} (h:128≤c):wrI c=false:=by
 simp [wrI,smI,dgI];omega
theorem inWord_any (c:Int) (w:World):Calls Tryz.prog 191 #[.int .i32 c] w fun e w'=>e=.returned (.bool (wrI c))∧w=w':=by
 go_enter Tryz.func191,Tryz.ntmps191
 go_wp2_with (first | (go_at_call 193;refine (isSmall_any _ _).mono ?_;rintro e w' ⟨rfl,rfl⟩) | (go_at_call 195;refine (isDigit_any _ _).mono ?_;rintro e w' ⟨rfl,rfl⟩))
 all_goals
  go_ret;exact⟨retb (by simp_all [wrI];try (intros;omega)),rfl⟩
theorem takeWhile_at {p:UInt8→Bool} {l:List UInt8} {k:Nat} (h:(l.take k).all p=true) (hs:l.length≤k∨∃ c r,l.drop k=c::r∧p c=false) (hk:k≤l.length):(l.takeWhile p).length=k:=by
 have e1:l.takeWhile p=l.take k++(l.drop k).takeWhile p:=by
  have:=List.takeWhile_append_of_pos (p:=p) (l₁:=l.take k) (l₂:=l.drop k) (fun a ha=>List.all_eq_true.1 h a ha);rw [List.take_append_drop] at this;exact this
 have hlen:(l.take k).length=k:=(by rw [List.length_take];omega);rcases hs with hs | ⟨c,r,hd,hc⟩
 ·rw [e1,List.drop_eq_nil_of_le hs];simp only [List.takeWhile_nil,List.append_nil];exact hlen
 ·rw [e1,hd,List.takeWhile_cons,hc];simp only [Bool.false_eq_true,if_false,List.append_nil];exact hlen
def tInt (n:Nat) (w:World) (e:Ending) (w':World):Prop:=e=.returned (.int .i64 (n:Int))∧Below w.heap.size w w'
theorem tInt_mk {n m:Nat} {w w':World} (h:m=n) (hb:Below w.heap.size w w'):tInt n w (.returned (.int .i64 (m:Int))) w':=by subst h;exact⟨rfl,hb⟩
theorem below_iter (w:World) (s:ByteArray) (pos:Nat):Below w.heap.size w (w.iter s pos):=(Below.refl _ _).alloc (Nat.le_refl _) _
theorem spanWord (s:ByteArray) (w:World) :
  Calls Tryz.prog 190 #[.string s,.func (.func 191) #[] #[]] w (tInt (wordS s.data.toList).length w):=by
 go_enter Tryz.func190,Tryz.ntmps190
 go_wp2;go_loopw [5] (fun _ wr=>∃ pos:Nat,wr=w.iter s pos∧pos≤s.size∧(s.data.toList.take pos).all wrd=true) (fun _ wr=>s.size - wr.iterPos w.heap.size)
 case atStart=>exact⟨0,rfl,Nat.zero_le _,rfl⟩
 case round =>
  obtain⟨pos,rfl,hk,ha⟩:=hrel;have HA:=Lh ha;clear ha;by_cases hp:pos<s.size
  ·by_cases h7:s[pos].toNat<128
   ·have hnx:∀ ty,(Instr.next (.pointer (some ⟨w.heap.size,0,none⟩)) true ty).run Tryz.prog (w.iter s pos)=_:=(fun ty=>run_next_ascii w s pos ty hp h7);have HW:=Lh (wrI_byte s[pos]);obtain⟨c,hc⟩:∃ c:Int,(s[pos].toNat:Int)=c:=⟨_,rfl⟩;rw [hc] at HW hnx;clear hc;have IW:∀ W,Calls Tryz.prog 191 #[.int .i32 c] W fun e w'=>e=.returned (.bool (wrI c))∧W=w':=fun W=>inWord_any c W
    rw [HW.out] at IW;cases hw:wrd s[pos]
    ·have HH:=Lh hw;rw [hw] at IW;clear hw;have IW:=Lh IW;go_wp2_with (go_at_call 191;refine (IW.out _).mono ?_;rintro e w' ⟨rfl,rfl⟩)
     go_ret;exact tInt_mk (takeWhile_at HA.out (.inr ⟨_,_,drop_cons s pos hp,HH.out⟩) (by rw [len_data];omega)).symm (below_iter _ _ _)
    ·have HH:=Lh hw;rw [hw] at IW;clear hw;have IW:=Lh IW;go_wp2_with (go_at_call 191;refine (IW.out _).mono ?_;rintro e w' ⟨rfl,rfl⟩)
     go_roundw
     case rel=>exact⟨pos+1,rfl,by omega,by rw [take_snoc s pos hp,List.all_append,HA.out];simp [HH.out]⟩
     case measure=>simp;omega
   ·have hnx:∀ ty,(Instr.next (.pointer (some ⟨w.heap.size,0,none⟩)) true ty).run Tryz.prog (w.iter s pos)=_:=(fun ty=>run_next_any w s pos ty hp);have hR:=decode_high s pos hp (by omega);have HH:Hid (wrd s[pos]=false):=Lh (by rw [←wrI_byte];exact wrI_high (by omega));obtain⟨R,hRR⟩:∃ R,(Utf8.decode s pos).1=R:=⟨_,rfl⟩;obtain⟨K,hKK⟩:∃ K,(Utf8.decode s pos).2=K:=⟨_,rfl⟩;rw [hRR,hKK] at hnx;rw [hRR] at hR;have IW:∀ W,Calls Tryz.prog 191 #[.int .i32 (R:Int)] W fun e w'=>e=.returned (.bool (wrI R))∧W=w':=fun W=>inWord_any R W
    rw [wrI_high (by omega)] at IW;have IW:=Lh IW;clear hRR hKK hR h7;go_wp2_with (go_at_call 191;refine (IW.out _).mono ?_;rintro e w' ⟨rfl,rfl⟩)
    go_ret;exact tInt_mk (takeWhile_at HA.out (.inr ⟨_,_,drop_cons s pos hp,HH.out⟩) (by rw [len_data];omega)).symm (below_iter _ _ _)
  ·have hnx:∀ ty,(Instr.next (.pointer (some ⟨w.heap.size,0,none⟩)) true ty).run Tryz.prog (w.iter s pos)=_:=(fun ty=>run_next_end w s pos ty hp);go_wp2;go_ret;exact tInt_mk (by rw [show s.size=pos by omega];exact (takeWhile_at HA.out (.inl (by rw [len_data];omega)) (by rw [len_data];omega)).symm) (below_iter _ _ _)
end LexW
namespace PackW
open Go Go.RowKit NumM
theorem take_snoc (s:ByteArray) (k:Nat) (h:k<s.size):s.data.toList.take (k+1)=s.data.toList.take k++[s[k]]:=by
 rw [List.take_succ_eq_append_getElem (by simpa using h)];rfl
theorem trim_any (s:ByteArray) (w:World) :
  Calls Tryz.prog 212 #[.string s,.string ⟨#[45]⟩] w fun e w'=>∃ d:ByteArray,e=.returned (.string d)∧d.data.toList=tl s.data.toList∧w=w' :=
 (Tryz.strings_TrimPrefix s ⟨#[45]⟩ w).mono fun _ _ ⟨he,hw⟩=>⟨_,he,by rw [←trim_eq],hw.symm⟩
theorem ret2 {a b c d:Int} (h:(a,b)=(c,d)):Ending.returned (.tuple #[.int .i64 a,.int .i64 b])=Ending.returned (.tuple #[.int .i64 c,.int .i64 d]):=by
 cases h;rfl
theorem retb {a b:Bool} (h:a=b):Ending.returned (.bool a)=.returned (.bool b):=by rw [h]
def parsed (l:List UInt8) (w:World) (e:Ending) (w':World):Prop:=e=.returned (.tuple #[.int .i64 (parseS l).1,.int .i64 (parseS l).2])∧Below w.heap.size w w'
theorem parseCode_yes (s : ByteArray) (w : World) (hs : s.size ≤ 140737488351232) (tp : TypeId) (p : Value) (hvar : w.var? Tryz.prog "strconv.ErrRange" = some #[.iface tp p]) (hdec : isDec s.data.toList = true) :
  Calls Tryz.prog 206 #[.string s] w (parsed s.data.toList w):=by
 have parts:=isDec_parts hdec;have p1:=Lh parts.1;have p2:=Lh parts.2.1;have p3:=Lh parts.2.2;have HV:=Lh hvar;have HDEC:=Lh hdec;clear parts hvar hdec
 go_enter Tryz.func206,Tryz.ntmps206
 go_wp2
 go_step3
 go_wp2_with (go_at_call 212;refine (trim_any _ _).mono ?_;rintro e w' ⟨d,rfl,hd,rfl⟩)
 have HD:=Lh hd;clear hd;have hl1:d.size≤s.size:=by
  have:=tl_length s.data.toList;rw [←HD.out] at this
  simpa using this
 have hl2:0<d.size:=by
  have:=p2.out;rw [←HD.out] at this;have h:0<d.data.toList.length:=List.length_pos_iff.2 this
  simpa using h
 go_step3
 go_wp2;go_loop [5,6,18,25] (fun i _ _ _=>∃ k:Nat,k≤d.size∧i=.int .i64 k) (fun i _ _ _=>d.size - (intOf i).toNat)
 case atStart=>exact⟨0,Nat.zero_le _,rfl⟩
 case round =>
  obtain⟨k,hk,rfl⟩:=hrel;by_cases hlt:k<d.size
  ·have g:=dgt_at HD.out p1.out hlt;have g3:(48:Int)≤(d[k].toNat:Int):=(by omega);have g4:(d[k].toNat:Int)≤57:=(by omega);clear g;by_cases c0:d[k].toNat=48
   ·by_cases k0:k=0
    ·subst k0;have hz:(!s.toList == [48])=false:=str_no (p3.out (by rw [head_at HD.out hlt,show d[0]=48 from by rw [←UInt8.toNat_inj,c0];rfl]));have c1:((d[0].toNat:Int) == 48)=true:=(by simp;omega);clear c0;go_wp2;go_round
     case rel=>exact⟨1,by omega,rfl⟩
     case measure=>simp [intOf];omega
    ·have k1:((k:Int) == 0)=false:=(by simpa using k0);have c1:((d[k].toNat:Int) == 48)=true:=(by simp;omega);clear c0;go_wp2;go_round
     case rel=>exact⟨k+1,by omega,by go_num⟩
     case measure=>simp [intOf];omega
   ·have c1:((d[k].toNat:Int) == 48)=false:=(by simp;omega);clear c0;go_wp2;go_round
    case rel=>exact⟨k+1,by omega,by go_num⟩
    case measure=>simp [intOf];omega
  ·have k1:((k:Int) == 0)=false:=(by simp;omega);by_cases g:okI (valS s.data.toList)=true
   ·go_wp2_with (go_at_call 197;refine (Tryz.strconv_Atoi_ok _ (by omega) (valS s.data.toList) (by rw [atoi_eq HDEC.out,if_pos g]) _).mono ?_;rintro e w' ⟨rfl,hw⟩)
    go_ret2;exact⟨ret2 (by rw [parseS,HDEC.out,if_pos rfl,lim_ok g]),by rcases hw with rfl | ⟨t,rfl⟩;exact Below.refl _ _;exact Joins.below_bytesWorld _ _ _ _ (Nat.le_refl _)⟩
   ·have g':okI (valS s.data.toList)=false:=(by simpa using g);clear g;go_wp2_with (go_at_call 197;refine (Tryz.strconv_Atoi_range_var _ (by omega) (by rw [atoi_eq HDEC.out,g'];rfl) tp p _ HV.out).mono ?_;rintro e w' ⟨N,rfl,-,-,hw⟩)
    go_ret2;exact⟨ret2 (by rw [parseS,HDEC.out,if_pos rfl,lim_no g']),hw⟩
theorem parseCode_no (s:ByteArray) (w:World) (hs:s.size≤140737488351232) (hdec:isDec s.data.toList=false) :
  Calls Tryz.prog 206 #[.string s] w (parsed s.data.toList w):=by
 have fin:∀ W:World,W=w→parsed s.data.toList w (.returned (.tuple #[.int .i64 0,.int .i64 5])) W:=by
  rintro W rfl;exact⟨by rw [parseS,hdec];rfl,Below.refl _ _⟩
 have FIN:=Lh fin;have HDEC:=Lh hdec;clear fin hdec
 go_enter Tryz.func206,Tryz.ntmps206
 go_wp2
 go_step3
 go_wp2_with (go_at_call 212;refine (trim_any _ _).mono ?_;rintro e w' ⟨d,rfl,hd,rfl⟩)
 have HD:=Lh hd;clear hd;have hl1:d.size≤s.size:=by
  have:=tl_length s.data.toList;rw [←HD.out] at this
  simpa using this
 go_step3
 go_wp2;go_loop [5,6,18,25] (fun i _ _ _=>∃ k:Nat,k≤d.size∧i=.int .i64 k∧(d.data.toList.take k).all dgt=true∧(1≤k→¬ (d.data.toList.head? = some 48∧s.data.toList≠[48]))) (fun i _ _ _=>d.size - (intOf i).toNat)
 case atStart=>exact⟨0,Nat.zero_le _,rfl,by simp,by omega⟩
 case round =>
  obtain⟨k,hk,rfl,ha,hb⟩:=hrel;have HA:=Lh ha;have HB:=Lh hb;clear ha hb;by_cases hlt:k<d.size
  ·by_cases g:dgt d[k]=true
   ·have g2:=dgt_iff.1 g;have g3:(48:Int)≤(d[k].toNat:Int):=(by omega);have g4:(d[k].toNat:Int)≤57:=(by omega);have G:=Lh g;clear g g2;have HA1:Hid ((d.data.toList.take (k+1)).all dgt=true):=Lh (by rw [take_snoc d k hlt,List.all_append,HA.out];simp [G.out]);by_cases c0:d[k].toNat=48
    ·by_cases k0:k=0
     ·subst k0;have c1:((d[0].toNat:Int) == 48)=true:=(by simp;omega);have C0:=Lh c0;clear c0;by_cases hs48:s.data.toList=[48]
      ·have hz:(!s.toList == [48])=false:=str_no hs48;have HS:=Lh hs48;clear hs48;go_wp2;go_round
       case rel=>exact⟨1,by omega,rfl,HA1.out,fun _ x=>x.2 HS.out⟩
       case measure=>simp [intOf];omega
      ·have hz:(!s.toList == [48])=true:=str_yes hs48;clear hs48;go_wp2;go_ret2;exact FIN.out _ rfl
     ·have k1:((k:Int) == 0)=false:=(by simpa using k0);have c1:((d[k].toNat:Int) == 48)=true:=(by simp;omega);clear c0;go_wp2;go_round
      case rel=>exact⟨k+1,by omega,by go_num,HA1.out,fun _=>HB.out (by omega)⟩
      case measure=>simp [intOf];omega
    ·have c1:((d[k].toNat:Int) == 48)=false:=(by simp;omega);have C0:=Lh c0;clear c0;go_wp2;go_round
     case rel=>exact⟨k+1,by omega,by go_num,HA1.out,fun _ x=>(by
      by_cases k0:k=0
      ·subst k0;have e:=x.1;rw [HD.out,head_at HD.out hlt] at e;exact C0.out (by rw [Option.some.inj e];rfl)
      ·exact HB.out (by omega) x)⟩
     case measure=>simp [intOf];omega
   ·have g2:(d[k].toNat:Int)<48∨57<(d[k].toNat:Int):=by
     rw [dgt_iff] at g;omega
    clear g;by_cases k0:k=0
    ·subst k0;rcases g2 with g2 | g2
     all_goals
      go_wp2;go_ret2;exact FIN.out _ rfl
    ·have k1:((k:Int) == 0)=false:=(by simpa using k0);rcases g2 with g2 | g2
     all_goals
      go_wp2;go_ret2;exact FIN.out _ rfl
  ·have k0:k=0:=by
    apply Classical.byContradiction;intro x;have e:=HA.out;rw [show k=d.size by omega,List.take_of_length_le (by simp),HD.out] at e;have b:=HB.out (by omega);rw [HD.out] at b;have hne:tl s.data.toList≠[]:=by
     rw [←HD.out];intro y;have h0:d.data.toList.length=d.size:=(by simp);rw [y] at h0;simp at h0;omega
    have c:=isDec_of e hne b;rw [HDEC.out] at c;cases c
   subst k0;go_wp2;go_ret2;exact FIN.out _ rfl
theorem parseCode_any (s : ByteArray) (w : World) (hs : s.size ≤ 140737488351232) (tp : TypeId) (p : Value) (hvar : w.var? Tryz.prog "strconv.ErrRange" = some #[.iface tp p]) :
  Calls Tryz.prog 206 #[.string s] w (parsed s.data.toList w):=by
 cases h:isDec s.data.toList
 ·exact parseCode_no s w hs h
 ·exact parseCode_yes s w hs tp p hvar h
end PackW
namespace LexW
open Go Go.RowKit NumM LexM
structure Tab (w:World):Prop where
 range : ∃ tp p, w.var? Tryz.prog "strconv.ErrRange" = some #[.iface tp p]
theorem gRange : Tryz.prog.globalNamed "strconv.ErrRange" = some 2 := by kernel_rfl
theorem var_later {n:String} {g:Nat} {cs:Array Value} {w w':World} (hg:Tryz.prog.globalNamed n=some g) (h:w.var? Tryz.prog n=some cs) (hb:Below w.heap.size w w'):w'.var? Tryz.prog n=some cs:=by
 by_cases hlt:g<w.heap.size
 ·exact var?_below hb hg hlt h
 ·unfold World.var? at h;simp only [hg,Option.bind_some] at h;rw [Array.getElem?_eq_none (by omega)] at h;cases h
theorem Tab.later {w w':World} (h:Tab w) (hb:Below w.heap.size w w'):Tab w' :=
 ⟨by obtain⟨tp,p,hr⟩:=h.range;exact⟨tp,p,var_later gRange hr hb⟩⟩
theorem _root_.Go.RowKit.Below.then_ {a b c:World} (h1:Below a.heap.size a b) (h2:Below b.heap.size b c):Below a.heap.size a c:=h1.trans (h2.mono h1.size)
abbrev bs (l:List UInt8):ByteArray:=⟨l.toArray⟩
theorem bs_data (s:ByteArray):bs s.data.toList=s:=rfl
theorem bs_inj {a b:ByteArray} (h:a.data.toList=b.data.toList):a=b:=by rw [←bs_data a,←bs_data b,h]
theorem ext_data (s:ByteArray) (a e:Nat):(s.extract a e).data.toList=(s.data.toList.drop a).take (e - a):=by
 simp [ByteArray.data_extract,Array.toList_extract]
abbrev tv (k n:Int) (x:ByteArray) (ln:Int):Value:=.agg #[.int .i64 k,.int .i64 n,.string x,.int .i64 ln]
def tvT (t:Tk):Value:=tv t.kind t.n (bs t.text) t.line
theorem alloc_cells (w:World) (xs:Array Value) (t:TypeId) (i:Nat) (v:Value) (h:xs[i]? = some v):(w.alloc (.cells xs t)).cell? ⟨w.heap.size,i,none⟩=some v∧(w.alloc (.cells xs t)).frozen? ⟨w.heap.size,i,none⟩=false:=by
 have hb:(w.alloc (.cells xs t)).heap[w.heap.size]? = some (.cells xs t):=heap_alloc_new _ _;constructor
 ·simp only [World.cell?,hb];simpa using h
 ·simp only [World.frozen?,hb];simp
theorem cell_set {w:World} {g o:Nat} {x y:Value} (h:w.cell? ⟨g,o,none⟩=some y):(w.setCell ⟨g,o,none⟩ x).cell? ⟨g,o,none⟩=some x:=by
 simp [World.cell?_setCell_same,h]
theorem setCell_size (w:World) (a:Addr) (v:Value):(w.setCell a v).heap.size=w.heap.size:=by simp [World.setCell]
structure Four (w:World) (g:Nat) (x0 x1 x2 x3:Value):Prop where
 lt:g<w.heap.size
 c0:w.cell? ⟨g,0,none⟩=some x0
 c1:w.cell? ⟨g,1,none⟩=some x1
 c2:w.cell? ⟨g,2,none⟩=some x2
 c3:w.cell? ⟨g,3,none⟩=some x3
 f0:w.frozen? ⟨g,0,none⟩=false
 f1:w.frozen? ⟨g,1,none⟩=false
 f2:w.frozen? ⟨g,2,none⟩=false
 f3:w.frozen? ⟨g,3,none⟩=false
section
variable {w W0:World} {g:Nat} {x0 x1 x2 x3:Value}
theorem Four.new (w:World) (x0 x1 x2 x3:Value) (t:TypeId):Four (w.alloc (.cells #[x0,x1,x2,x3] t)) w.heap.size x0 x1 x2 x3 :=
 ⟨by simp,(alloc_cells w #[x0,x1,x2,x3] t 0 x0 rfl).1,(alloc_cells w #[x0,x1,x2,x3] t 1 x1 rfl).1,(alloc_cells w #[x0,x1,x2,x3] t 2 x2 rfl).1,(alloc_cells w #[x0,x1,x2,x3] t 3 x3 rfl).1,(alloc_cells w #[x0,x1,x2,x3] t 0 x0 rfl).2,(alloc_cells w #[x0,x1,x2,x3] t 1 x1 rfl).2,(alloc_cells w #[x0,x1,x2,x3] t 2 x2 rfl).2,(alloc_cells w #[x0,x1,x2,x3] t 3 x3 rfl).2⟩
theorem Four.at_ (hg:w.heap.size=g) (x0 x1 x2 x3:Value) (t:TypeId):Four (w.alloc (.cells #[x0,x1,x2,x3] t)) g x0 x1 x2 x3:=by subst hg;exact Four.new w x0 x1 x2 x3 t
theorem Four.stay (h:Four W0 g x0 x1 x2 x3) (hb:Below W0.heap.size W0 w):Four w g x0 x1 x2 x3 :=
 ⟨Nat.lt_of_lt_of_le h.lt hb.size,(hb.cell (p:=⟨g,0,none⟩) h.lt).trans h.c0,(hb.cell (p:=⟨g,1,none⟩) h.lt).trans h.c1,(hb.cell (p:=⟨g,2,none⟩) h.lt).trans h.c2,(hb.cell (p:=⟨g,3,none⟩) h.lt).trans h.c3,
  (hb.frozen (p:=⟨g,0,none⟩) h.lt).trans h.f0,(hb.frozen (p:=⟨g,1,none⟩) h.lt).trans h.f1,(hb.frozen (p:=⟨g,2,none⟩) h.lt).trans h.f2,(hb.frozen (p:=⟨g,3,none⟩) h.lt).trans h.f3⟩
theorem Four.alloc (h:Four w g x0 x1 x2 x3) (o:Obj):Four (w.alloc o) g x0 x1 x2 x3:=h.stay ((Below.refl _ _).alloc (Nat.le_refl _) _)
theorem Four.drew (h:Four w g x0 x1 x2 x3):Four w.drew g x0 x1 x2 x3:=h.stay (Below.refl _ _).drew
theorem Four.far {b o:Nat} {v:Value} (h:Four w g x0 x1 x2 x3) (hn:g≠b):Four (w.setCell ⟨b,o,none⟩ v) g x0 x1 x2 x3:=by
 have c:∀ i,(w.setCell ⟨b,o,none⟩ v).cell? ⟨g,i,none⟩=w.cell? ⟨g,i,none⟩:=(fun i=>World.cell?_setCell_other _ _ _ _ (fun e=>hn (congrArg Addr.block e).symm));exact⟨by rw [setCell_size];exact h.lt,by rw [c];exact h.c0,by rw [c];exact h.c1,by rw [c];exact h.c2,by rw [c];exact h.c3,by rw [World.frozen?_setCell];exact h.f0,by rw [World.frozen?_setCell];exact h.f1,by rw [World.frozen?_setCell];exact h.f2,by rw [World.frozen?_setCell];exact h.f3⟩
theorem other (w:World) {g i j:Nat} (v:Value) (hij:i≠j):(w.setCell ⟨g,i,none⟩ v).cell? ⟨g,j,none⟩=w.cell? ⟨g,j,none⟩:=World.cell?_setCell_other _ _ _ _ (fun e=>hij (congrArg Addr.off e))
theorem Four.set3 (h:Four w g x0 x1 x2 x3) (v:Value):Four (w.setCell ⟨g,3,none⟩ v) g x0 x1 x2 v :=
 ⟨by rw [setCell_size];exact h.lt,by rw [other _ _ (by decide)];exact h.c0,by rw [other _ _ (by decide)];exact h.c1,by rw [other _ _ (by decide)];exact h.c2,cell_set h.c3,by rw [World.frozen?_setCell];exact h.f0,by rw [World.frozen?_setCell];exact h.f1,by rw [World.frozen?_setCell];exact h.f2,by rw [World.frozen?_setCell];exact h.f3⟩
theorem Four.put (h:Four w g x0 x1 x2 x3) (y0 y1 y2 y3:Value):Four ((((w.setCell ⟨g,0,none⟩ y0).setCell ⟨g,1,none⟩ y1).setCell ⟨g,2,none⟩ y2).setCell ⟨g,3,none⟩ y3) g y0 y1 y2 y3:=by
 have s0:Four (w.setCell ⟨g,0,none⟩ y0) g y0 x1 x2 x3:=⟨by rw [setCell_size];exact h.lt,cell_set h.c0,by rw [other _ _ (by decide)];exact h.c1,by rw [other _ _ (by decide)];exact h.c2,by rw [other _ _ (by decide)];exact h.c3,by rw [World.frozen?_setCell];exact h.f0,by rw [World.frozen?_setCell];exact h.f1,by rw [World.frozen?_setCell];exact h.f2,by rw [World.frozen?_setCell];exact h.f3⟩;have s1:Four ((w.setCell ⟨g,0,none⟩ y0).setCell ⟨g,1,none⟩ y1) g y0 y1 x2 x3:=⟨by rw [setCell_size];exact s0.lt,by rw [other _ _ (by decide)];exact s0.c0,cell_set s0.c1,by rw [other _ _ (by decide)];exact s0.c2,by rw [other _ _ (by decide)];exact s0.c3,by rw [World.frozen?_setCell];exact s0.f0,by rw [World.frozen?_setCell];exact s0.f1,by rw [World.frozen?_setCell];exact s0.f2,by rw [World.frozen?_setCell];exact s0.f3⟩;have s2:Four (((w.setCell ⟨g,0,none⟩ y0).setCell ⟨g,1,none⟩ y1).setCell ⟨g,2,none⟩ y2) g y0 y1 y2 x3:=⟨by rw [setCell_size];exact s1.lt,by rw [other _ _ (by decide)];exact s1.c0,by rw [other _ _ (by decide)];exact s1.c1,cell_set s1.c2,by rw [other _ _ (by decide)];exact s1.c3,by rw [World.frozen?_setCell];exact s1.f0,by rw [World.frozen?_setCell];exact s1.f1,by rw [World.frozen?_setCell];exact s1.f2,by rw [World.frozen?_setCell];exact s1.f3⟩;exact s2.set3 y3
theorem below_put (h:Below W0.heap.size W0 w) (hg:W0.heap.size≤g) (y0 y1 y2 y3:Value):Below W0.heap.size W0 ((((w.setCell ⟨g,0,none⟩ y0).setCell ⟨g,1,none⟩ y1).setCell ⟨g,2,none⟩ y2).setCell ⟨g,3,none⟩ y3) :=
 (((h.setCell hg _).setCell hg _).setCell hg _).setCell hg _
end
def tTok (w:World) (r:Tk × Int) (e:Ending) (w':World):Prop:=e=.returned (.tuple #[tv r.1.kind r.1.n (bs r.1.text) 0,.int .i64 r.2])∧Below w.heap.size w w'
theorem tTok_mk {w w':World} {k n er:Int} {x:ByteArray} {r:Tk × Int} (h:r=(⟨k,n,x.data.toList,0⟩,er)) (hb:Below w.heap.size w w'):tTok w r (.returned (.tuple #[tv k n x 0,.int .i64 er])) w':=by
 subst h;exact⟨rfl,hb⟩
theorem word_any (s:ByteArray) (w:World) (hs:s.size≤140737488351232):Calls Tryz.prog 194 #[.string s] w (tTok w (nameT s.data.toList)):=by
 have hl:=len_data s;by_cases h:16<s.size
 ·have E:Hid (nameT s.data.toList=(⟨0,0,(⟨#[]⟩:ByteArray).data.toList,0⟩,2)):=Lh (by rw [nameT,if_pos (by omega)];rfl);clear hl
  go_enter Tryz.func194,Tryz.ntmps194
  go_wp2;refine bodyPost_ret (v:=.tuple #[tv 0 0 ⟨#[]⟩ 0,.int .i64 2]) (by simp [results,Tryz.results194,go_sem]) rfl ?_;exact tTok_mk E.out ((Below.refl _ _).alloc (Nat.le_refl _) _)
 ·have KW:∀ W,Calls Tryz.prog 205 #[.string s] W fun e w'=>e=.returned (.bool (isKw s.data.toList))∧W=w':=fun W=>isKeyword_any s W
  cases hk:isKw s.data.toList
  ·have E:Hid (nameT s.data.toList=(⟨1,0,s.data.toList,0⟩,0)):=Lh (by rw [nameT,if_neg (by omega),hk];rfl);rw [hk] at KW;have KW:=Lh KW;clear hl hk
   go_enter Tryz.func194,Tryz.ntmps194
   go_wp2_with (go_at_call 205;((with_reducible refine (KW.out _).mono ?_);rintro e w' ⟨rfl,rfl⟩))
   refine bodyPost_ret (v:=.tuple #[tv 1 0 s 0,.int .i64 0]) (by simp [results,Tryz.results194,go_sem]) rfl ?_;exact tTok_mk E.out ((Below.refl _ _).alloc (Nat.le_refl _) _)
  ·have E:Hid (nameT s.data.toList=(⟨2,0,s.data.toList,0⟩,0)):=Lh (by rw [nameT,if_neg (by omega),hk];rfl);rw [hk] at KW;have KW:=Lh KW;clear hl hk
   go_enter Tryz.func194,Tryz.ntmps194
   go_wp2_with (go_at_call 205;((with_reducible refine (KW.out _).mono ?_);rintro e w' ⟨rfl,rfl⟩))
   refine bodyPost_ret (v:=.tuple #[tv 2 0 s 0,.int .i64 0]) (by simp [results,Tryz.results194,go_sem]) rfl ?_;exact tTok_mk E.out ((Below.refl _ _).alloc (Nat.le_refl _) _)
end LexW
end Go.Proofs.YtpejflgdehioaaaGreatDoor
