/-
  Laws that the card uses; no conditions beside those that each states (ExLexValid ExName ExFault).
-/
import Derived.Test.YtpejflgdehioaaaGreatDoorU05
set_option maxRecDepth 100000
set_option maxHeartbeats 16000000
namespace Go.Proofs.YtpejflgdehioaaaGreatDoor
namespace LexW
open Go Go.RowKit NumM LexM
def tkEq (k n:Int) (x:ByteArray) (l:Int) (k' n':Int) (x':ByteArray) (l':Int):Bool:=(k == k')&&((n == n')&&((x.toList == x'.toList)&&(l == l')))
theorem run_tok_eq (W:World) (k n:Int) (x:ByteArray) (l:Int) (k' n':Int) (x':ByteArray) (l':Int) :
  (binOp .eql 154 (tv k n x l) (tv k' n' x' l')).run Tryz.prog W=.ok (.bool (tkEq k n x l k' n' x' l')) W:=by
 unfold tkEq;cases h0:(k == k')<;>cases h1:(n == n')<;>cases h2:(x.toList == x'.toList)<;>cases h3:(l == l') <;>
  simp [go_sem,h0,h1,h2,h3]
theorem tkEq_iff {k n:Int} {x:ByteArray} {l:Int} {k' n':Int} {x':ByteArray} {l':Int}:tkEq k n x l k' n' x' l'=true↔k=k'∧n=n'∧x.data.toList=x'.data.toList∧l=l':=by
 simp [tkEq,Lib.toList_data]
theorem valid_ok (a b d:Int) (s y:ByteArray) (k m:Int) (w:World)
  (CC:Hid (∀ W,Below w.heap.size w W→Calls Tryz.prog 165 #[.string s] W fun e w'=>e=.returned (.tuple #[tv k m y 0,.int .i64 0])∧Below W.heap.size W w')) :
  Calls Tryz.prog 118 #[tv a b s d] w fun e w'=>e=.returned (.bool (tkEq k m y 0 a b s 0))∧Below w.heap.size w w':=by
 have hb0:Hid (Below w.heap.size w (w.alloc (.cells #[.int .i64 a,.int .i64 b,.string s,.int .i64 0] 154))):=Lh ((Below.refl _ _).alloc (Nat.le_refl _) _);have HQ:=(fun W=>run_tok_eq W k m y 0 a b s 0);obtain⟨B,hB⟩:∃ B,tkEq k m y 0 a b s 0=B:=⟨_,rfl⟩;rw [hB];rw [hB] at HQ;clear hB
 go_enter Tryz.func118,Tryz.ntmps118
 go_wp2_with (go_at_call 165;((with_reducible refine (CC.out _ hb0.out).mono ?_);rintro e w1 ⟨rfl,hb⟩;have F:=Lh ((Four.new w _ _ _ _ _).stay hb);have HB:=Lh (Below.then_ hb0.out hb);clear hb;have f0:=F.out.f0;have f1:=F.out.f1;have f2:=F.out.f2;have f3:=F.out.f3;have c0:=F.out.c0;have c1:=F.out.c1;have c2:=F.out.c2;have c3:=F.out.c3;have z1:=F.out.lt))
 go_ret;exact⟨rfl,HB.out.alloc HB.out.size _⟩
theorem valid_no (a b d:Int) (s y:ByteArray) (k m er:Int) (w:World) (he:(er == 0)=false)
  (CC:Hid (∀ W,Below w.heap.size w W→Calls Tryz.prog 165 #[.string s] W fun e w'=>e=.returned (.tuple #[tv k m y 0,.int .i64 er])∧Below W.heap.size W w')) :
  Calls Tryz.prog 118 #[tv a b s d] w fun e w'=>e=.returned (.bool false)∧Below w.heap.size w w':=by
 have hb0:Hid (Below w.heap.size w (w.alloc (.cells #[.int .i64 a,.int .i64 b,.string s,.int .i64 0] 154))):=Lh ((Below.refl _ _).alloc (Nat.le_refl _) _)
 go_enter Tryz.func118,Tryz.ntmps118
 go_wp2_with (go_at_call 165;((with_reducible refine (CC.out _ hb0.out).mono ?_);rintro e w1 ⟨rfl,hb⟩;have F:=Lh ((Four.new w _ _ _ _ _).stay hb);have HB:=Lh (Below.then_ hb0.out hb);clear hb;have f0:=F.out.f0;have f1:=F.out.f1;have f2:=F.out.f2;have f3:=F.out.f3;have c0:=F.out.c0;have c1:=F.out.c1;have c2:=F.out.c2;have c3:=F.out.c3;have z1:=F.out.lt))
 go_ret;exact⟨rfl,HB.out.alloc HB.out.size _⟩
theorem valid_any (t:Tk) (w:World) (hs:t.text.length≤140737488351232) (ht:Tab w) :
  Calls Tryz.prog 118 #[tvT t] w fun e w'=>e=.returned (.bool (validS t))∧Below w.heap.size w w':=by
 have hsz:(bs t.text).size≤140737488351232:=(by rw [←len_data];exact hs);obtain⟨k,m,er,y,hk,hm,hy,he,CC,_⟩:=first_part 165 (bs t.text) (firstS t.text) w (fun W hb=>first_any (bs t.text) W hsz (ht.later hb));by_cases h0:er=0
 ·subst h0;have e:tkEq k m y 0 t.kind t.n (bs t.text) 0=validS t:=by
   rw [Bool.eq_iff_iff,tkEq_iff,validS];simp [hk,hm,hy,he]
  rw [←e];exact valid_ok t.kind t.n t.line (bs t.text) y k m w CC
 ·have e:validS t=false:=(by unfold validS;rw [he,decide_eq_false h0];rfl);rw [e];exact valid_no t.kind t.n t.line (bs t.text) y k m er w (by simpa using h0) CC
def nameS (l:List UInt8):Bool:=validS ⟨1,0,l,0⟩
theorem isName_any (s:ByteArray) (w:World) (hs:s.size≤140737488351232) (ht:Tab w) :
  Calls Tryz.prog 76 #[.string s] w fun e w'=>e=.returned (.bool (nameS s.data.toList))∧Below w.heap.size w w':=by
 have VC:Hid (∀ W,Below w.heap.size w W→Calls Tryz.prog 118 #[tv 1 0 s 0] W fun e w'=>e=.returned (.bool (nameS s.data.toList))∧Below W.heap.size W w') :=
  Lh fun W hb=>valid_any ⟨1,0,s.data.toList,0⟩ W (by rw [len_data];exact hs) (ht.later hb)
 have hb0:=Lh (Below.refl w.heap.size w);clear ht
 go_enter Tryz.func76,Tryz.ntmps76
 go_wp2_with (go_at_call 118;((with_reducible refine (VC.out _ hb0.out).mono ?_);rintro e w1 ⟨rfl,hb⟩))
 go_ret;exact⟨rfl,hb⟩
end LexW
namespace ExW
open Go Go.RowKit NumM LexW LexM ExM
theorem nm_wrd {l:List UInt8} (h:nmB l=true):∀ c∈l,wrd c=true:=by
 cases l with
 | nil=>simp
 | cons a r =>
  unfold nmB at h;simp only [Bool.and_eq_true] at h;exact List.all_eq_true.1 h.2.2.2
theorem nm_no {l:List UInt8} (h:nmB l=true):(91:UInt8) ∉ l:=fun hm=>by
 have:=nm_wrd h _ hm
 revert this;decide
def idxB (l:List UInt8):Bool:=match l with | [d,c]=>decide (48≤d.toNat∧d.toNat≤55)&&decide (c=93) | _=>false
theorem idx_iff {l:List UInt8}:idxB l=true↔∃ d:UInt8,l=[d,93]∧(48≤d.toNat∧d.toNat≤55):=by
 unfold idxB;split
 ·rename_i d c;simp only [Bool.and_eq_true,decide_eq_true_eq];constructor
  ·rintro ⟨a,rfl⟩;exact⟨d,rfl,a⟩
  ·rintro ⟨d',h,a⟩;have h1:d=d':=(by simpa using congrArg (fun l=>l.head?) h);have h2:c=93:=(by simpa using congrArg (fun l=>l.tail.head?) h);exact⟨by rw [h1];exact a,h2⟩
 ·rename_i hn;simp only [Bool.false_eq_true,false_iff];rintro ⟨d,rfl,_⟩;exact hn d 93 rfl
theorem elm_iff {l:List UInt8}:elmB l=true↔∃ r d,l=r++91::[d,93]∧(48≤d.toNat∧d.toNat≤55)∧nmB r=true:=by
 unfold elmB;split
 ·rename_i c d b r hr;have hl:l=r.reverse++[b,d,c]:=(by rw [←List.reverse_reverse l,hr];simp);simp only [Bool.and_eq_true,decide_eq_true_eq];constructor
  ·rintro ⟨rfl,rfl,a,n⟩;exact⟨r.reverse,d,hl,a,n⟩
  ·rintro ⟨r',d',h,a,n⟩;rw [hl] at h;have hlen:r.reverse.length=r'.length:=(by have:=congrArg List.length h;simp at this;simpa using this);obtain⟨h1,h2⟩:=List.append_inj h hlen;have e1:b=91:=(by simpa using congrArg (fun l=>l.head?) h2);have e2:d=d':=(by simpa using congrArg (fun l=>l.tail.head?) h2);have e3:c=93:=(by simpa using congrArg (fun l=>l.tail.tail.head?) h2);exact⟨e3,e1,by rw [e2];exact a,by rw [h1];exact n⟩
 ·rename_i hn;simp only [Bool.false_eq_true,false_iff];rintro ⟨r,d,rfl,_⟩;exact hn 93 d 91 r.reverse (by simp)
theorem var_none {l:List UInt8} (h:(91:UInt8) ∉ l):varB l=nmB l:=by
 unfold varB;have:elmB l=false:=by
  rw [Bool.eq_false_iff];intro e;obtain⟨r,d,rfl,_⟩:=elm_iff.1 e;exact h (by simp)
 rw [this];rfl
theorem split_at {a b c d:List UInt8} (h:a++91::b=c++91::d) (ha:(91:UInt8) ∉ a) (hc:(91:UInt8) ∉ c):a=c∧b=d:=by
 induction a generalizing c with
 | nil =>
  cases c with
  | nil=>simpa using h
  | cons x r =>
   have:(91:UInt8)=x:=(by simpa using congrArg (fun l=>l.head?) h);exact absurd (by rw [this];simp) hc
 | cons y q ih =>
  cases c with
  | nil =>
   have:y=(91:UInt8):=(by simpa using congrArg (fun l=>l.head?) h);exact absurd (by rw [this];simp) ha
  | cons x r =>
   simp only [List.cons_append,List.cons.injEq] at h;obtain⟨h1,h2⟩:=ih h.2 (fun m=>ha (by simp [m])) (fun m=>hc (by simp [m]));exact⟨by rw [h.1,h1],h2⟩
theorem var_some {a b:List UInt8} (h:(91:UInt8) ∉ a):varB (a++91::b)=(nmB a&&idxB b):=by
 unfold varB;have h0:nmB (a++91::b)=false:=by
  rw [Bool.eq_false_iff];intro e;exact nm_no e (by simp)
 rw [h0,Bool.or_false,Bool.eq_iff_iff,elm_iff,Bool.and_eq_true,idx_iff];constructor
 ·rintro ⟨r,d,e,hd,n⟩;obtain⟨e1,e2⟩:=split_at e h (nm_no n);exact⟨by rw [e1];exact n,d,e2,hd⟩
 ·rintro ⟨n,d,rfl,hd⟩;exact⟨a,d,rfl,hd,n⟩
theorem ext_list (s:ByteArray) (a e:Nat):(s.extract a e).data.toList=(s.data.toList.drop a).take (e - a):=by
 simp [ByteArray.data_extract,Array.toList_extract]
def cutB (s t b:ByteArray) (f:Bool):Prop:=t.size≤s.size∧b.size≤s.size∧(91:UInt8) ∉ t.data.toList∧((f=true∧s.data.toList=t.data.toList++91::b.data.toList)∨(f=false∧t.data.toList=s.data.toList))
theorem cutLite (s:ByteArray) (hs:s.size≤140737488351232) :
  ∃ t b f,cutB s t b f∧∀ w,Calls Tryz.prog 199 #[.string s,.string ⟨#[91]⟩] w fun e w'=>e=.returned (.tuple #[.string t,.string b,.bool f])∧Below w.heap.size w w':=by
 have IX:=(fun w=>Tryz.stringslite_Index_one s 91 w);have hge:=Lib.indexByte_ge s.data.toList 91;have hlen:s.data.toList.length=s.size:=(by simp);by_cases h:Lib.indexByte s.data.toList 91 = -1
 ·have e:=(fun j=>Lib.indexByte_none h j);rw [h] at IX;have IX:=Lh IX;have P:Hid (cutB s s ⟨#[]⟩ false):=Lh ⟨Nat.le_refl _,Nat.zero_le _,fun hm=>by
   obtain⟨j,hj,he⟩:=List.mem_iff_getElem.1 hm;exact e j (by rw [List.getElem?_eq_getElem hj,he]),.inr ⟨rfl,rfl⟩⟩
  clear h hge e hlen;refine⟨_,_,_,P.out,fun w=>?_⟩
  go_enter Tryz.func199,Tryz.ntmps199
  go_wp2_with (go_at_call 210;((with_reducible refine (IX.out _).mono ?_);rintro e w' ⟨rfl,rfl⟩))
  refine bodyPost_ret (v:=.tuple #[.string s,.string ⟨#[]⟩,.bool false]) (by simp [results,Tryz.results199,go_sem]) rfl ?_;exact⟨rfl,Below.refl _ _⟩
 ·obtain⟨k,hk⟩:∃ k:Nat,Lib.indexByte s.data.toList 91=(k:Int):=⟨(Lib.indexByte s.data.toList 91).toNat,by omega⟩;obtain⟨h1,h2⟩:=Lib.indexByte_some hk;have hlt:k<s.data.toList.length:=by
   apply Nat.lt_of_not_le;intro g;rw [List.getElem?_eq_none g] at h1;cases h1
  rw [hk] at IX;have IX:=Lh IX;have P:Hid (cutB s (s.extract 0 k) (s.extract (k+1) s.size) true):=Lh (by
   have q1:(s.extract 0 k).data.toList=s.data.toList.take k:=(by rw [ext_list];simp);have q2:(s.extract (k+1) s.size).data.toList=s.data.toList.drop (k+1):=by
    rw [ext_list,List.take_of_length_le (by rw [List.length_drop];omega)]
   have z1:=congrArg List.length q1;have z2:=congrArg List.length q2;rw [len_data,List.length_take,len_data] at z1;rw [len_data,List.length_drop,len_data] at z2;refine⟨by omega,by omega,?_,.inl ⟨rfl,?_⟩⟩
   ·rw [q1];intro hm;obtain⟨j,hj,he⟩:=List.mem_iff_getElem.1 hm;rw [List.length_take] at hj;rw [List.getElem_take] at he;exact h2 j (by omega) (by rw [List.getElem?_eq_getElem (by omega),he])
   ·rw [q1,q2];have:=List.take_append_drop k s.data.toList;have hd:s.data.toList.drop k=91::s.data.toList.drop (k+1):=by
     rw [List.drop_eq_getElem_cons hlt];have:s.data.toList[k]=91:=(by rw [List.getElem?_eq_getElem hlt] at h1;simpa using h1);rw [this]
    rw [←hd];exact this.symm)
  rw [hlen] at hlt;have b1:(0:Int)≤(k:Int):=(by omega);have b2:(k:Int)≤(s.size:Int):=(by omega);have b3:(k:Int)+1≤(s.size:Int):=(by omega);have b4:IntKind.i64.wrap ((k:Int)+1)=(k:Int)+1:=(by rw [IntKind.wrap_i64];omega);have b5:((k:Int)+1).toNat=k+1:=(by omega);clear h hge hlen hk h1 h2;refine⟨_,_,_,P.out,fun w=>?_⟩
  go_enter Tryz.func199,Tryz.ntmps199
  go_wp2_with (go_at_call 210;((with_reducible refine (IX.out _).mono ?_);rintro e w' ⟨rfl,rfl⟩))
  go_region
  all_goals
   go_wp2;refine bodyPost_ret (v:=.tuple #[.string (s.extract 0 k),.string (s.extract (k+1) s.size),.bool true]) (by simp [results,Tryz.results199,go_sem]) rfl ?_;exact⟨rfl,by first | exact Below.refl _ _ | exact (Below.refl _ _).drew⟩
theorem cutCode (s:ByteArray) (hs:s.size≤140737488351232) :
  ∃ t b f,cutB s t b f∧∀ w,Calls Tryz.prog 174 #[.string s,.string ⟨#[91]⟩] w fun e w'=>e=.returned (.tuple #[.string t,.string b,.bool f])∧Below w.heap.size w w':=by
 obtain⟨t,b,f,P,C⟩:=cutLite s hs;refine⟨t,b,f,P,fun w=>?_⟩;have C:=Lh C;clear hs P
 go_enter Tryz.func174,Tryz.ntmps174
 go_wp2_with (go_at_call 199;((with_reducible refine (C.out _).mono ?_);rintro e w1 ⟨rfl,hb⟩;have HB:=Lh hb;clear hb))
 refine bodyPost_ret (v:=.tuple #[.string t,.string b,.bool f]) (by simp [results,Tryz.results174,go_sem]) rfl ?_;exact⟨rfl,HB.out⟩
theorem two_bytes {s:ByteArray} (h:s.size=2):s.data.toList=[s[0],s[1]]:=by
 apply List.ext_getElem
 ·have:=len_data s;simp only [List.length_cons,List.length_nil];omega
 ·intro i h1 h2;simp only [List.length_cons,List.length_nil] at h2;match i,h2 with
  | 0,_=>rfl
  | 1,_=>rfl
theorem isIndex_any (s:ByteArray) (w:World):Calls Tryz.prog 175 #[.string s] w fun e w'=>e=.returned (.bool (idxB s.data.toList))∧w=w':=by
 by_cases h:s.size=2
 ·have e2:=two_bytes h;have h0:0<s.size:=(by omega);have h1:1<s.size:=(by omega);by_cases g1:48≤(s[0].toNat:Int)
  ·by_cases g2:(s[0].toNat:Int)<56
   ·by_cases g3:(s[1].toNat:Int)=93
    ·have EE:Hid (true=idxB s.data.toList):=Lh (by
      rw [e2,eq_comm,idx_iff];refine⟨s[0],?_,by omega,by omega⟩;have:s[1]=93:=UInt8.toNat_inj.1 (by show s[1].toNat=93;omega);rw [this])
     clear e2
     go_enter Tryz.func175,Tryz.ntmps175
     go_wp2;go_ret;exact⟨retb EE.out,rfl⟩
    ·have EE:Hid (false=idxB s.data.toList):=Lh (by
      rw [e2]
      have:(s[1]=93)↔False:=⟨fun x=>(by rw [x] at g3;exact g3 rfl),False.elim⟩
      simp [idxB,this])
     have g4:((s[1].toNat:Int) == 93)=false:=(by rw [beq_eq_false_iff_ne];exact g3);clear e2 g3
     go_enter Tryz.func175,Tryz.ntmps175
     go_wp2;go_ret;exact⟨retb EE.out,rfl⟩
   ·have EE:Hid (false=idxB s.data.toList):=Lh (by rw [e2];simp [idxB];intros;omega);clear e2
    go_enter Tryz.func175,Tryz.ntmps175
    go_wp2;go_ret;exact⟨retb EE.out,rfl⟩
  ·have EE:Hid (false=idxB s.data.toList):=Lh (by rw [e2];simp [idxB];intros;omega);clear e2
   go_enter Tryz.func175,Tryz.ntmps175
   go_wp2;go_ret;exact⟨retb EE.out,rfl⟩
 ·have EE:Hid (false=idxB s.data.toList):=Lh (by
   rw [eq_comm,Bool.eq_false_iff];intro e;obtain⟨d,hd,_⟩:=idx_iff.1 e;have:=len_data s;rw [hd] at this;exact h this.symm)
  have h2:((s.size:Int) == 2)=false:=(by rw [beq_eq_false_iff_ne];omega);clear h
  go_enter Tryz.func175,Tryz.ntmps175
  go_wp2;go_ret;exact⟨retb EE.out,rfl⟩
theorem nameS_eq (l:List UInt8):nameS l=nmB l:=name_iff l
theorem isVar_any (s:ByteArray) (w:World) (hs:s.size≤140737488351232) (ht:Tab w) :
  Calls Tryz.prog 146 #[.string s] w (tBool (varB s.data.toList) w):=by
 obtain⟨t,b,f,⟨p1,p2,p3,p4⟩,C⟩:=cutCode s hs;have C:=Lh C;have HT:=Lh ht
 have NC:Hid (∀ W,Below w.heap.size w W→Calls Tryz.prog 76 #[.string t] W fun e w'=>e=.returned (.bool (nmB t.data.toList))∧Below W.heap.size W w') :=
  Lh fun W hb=>by rw [←nameS_eq];exact isName_any t W (by omega) (HT.out.later hb)
 have IC:Hid (∀ W,Calls Tryz.prog 175 #[.string b] W fun e w'=>e=.returned (.bool (idxB b.data.toList))∧W=w'):=(Lh fun W=>isIndex_any b W);have VV:Hid (varB s.data.toList=(nmB t.data.toList&&(!f||idxB b.data.toList))):=Lh (by
  rcases p4 with ⟨rfl,e⟩ | ⟨rfl,e⟩
  ·rw [e,var_some p3];rfl
  ·rw [←e,var_none p3];simp)
 clear ht p1 p2 p3 p4;generalize nmB t.data.toList=n at *
 generalize idxB b.data.toList=i at *
 cases n
 ·go_enter Tryz.func146,Tryz.ntmps146
  go_wp2_with (first
   |(go_at_call 174;((with_reducible refine (C.out _).mono ?_);rintro e w1 ⟨rfl,hb⟩;have HB:=Lh hb;clear hb))
   |(go_at_call 76;((with_reducible refine (NC.out _ HB.out).mono ?_);rintro e w2 ⟨rfl,hb⟩;have HB2:=Lh hb;clear hb)))
  go_ret;exact tBool_mk (by rw [VV.out];rfl) (HB.out.then_ HB2.out)
 ·cases f
  ·go_enter Tryz.func146,Tryz.ntmps146
   go_wp2_with (first
    |(go_at_call 174;((with_reducible refine (C.out _).mono ?_);rintro e w1 ⟨rfl,hb⟩;have HB:=Lh hb;clear hb))
    |(go_at_call 76;((with_reducible refine (NC.out _ HB.out).mono ?_);rintro e w2 ⟨rfl,hb⟩;have HB2:=Lh hb;clear hb)))
   go_ret;exact tBool_mk (by rw [VV.out];rfl) (HB.out.then_ HB2.out)
  ·go_enter Tryz.func146,Tryz.ntmps146
   go_wp2_with (first
    |(go_at_call 174;((with_reducible refine (C.out _).mono ?_);rintro e w1 ⟨rfl,hb⟩;have HB:=Lh hb;clear hb))
    |(go_at_call 76;((with_reducible refine (NC.out _ HB.out).mono ?_);rintro e w2 ⟨rfl,hb⟩;have HB2:=Lh hb;clear hb))
    |(go_at_call 175;((with_reducible refine (IC.out _).mono ?_);rintro e w3 ⟨rfl,rfl⟩)))
   go_ret;exact tBool_mk (by rw [VV.out];rfl) (HB.out.then_ HB2.out)
theorem takes_any (o:Int) (k:Nat) (w:World) (hk:k≤140737488351232) :
  Calls Tryz.prog 142 #[.int .i64 o,.int .i64 k] w fun e w'=>e=.returned (.bool (takesS o k))∧w=w':=by
 by_cases h:o=23
 ·subst h;by_cases h1:3≤(k:Int)
  ·by_cases h2:(k:Int)≤33
   ·go_enter Tryz.func142,Tryz.ntmps142
    go_wp2;go_ret;exact⟨retb (by rw [takesS,if_pos rfl,Bool.eq_iff_iff];simp only [beq_iff_eq,decide_eq_true_eq];omega),rfl⟩
   ·go_enter Tryz.func142,Tryz.ntmps142
    go_wp2;go_ret;exact⟨retb (by rw [takesS,if_pos rfl,eq_comm,decide_eq_false_iff_not];omega),rfl⟩
  ·go_enter Tryz.func142,Tryz.ntmps142
   go_wp2;go_ret;exact⟨retb (by rw [takesS,if_pos rfl,eq_comm,decide_eq_false_iff_not];omega),rfl⟩
 ·have h0:(o == 23)=false:=(by rw [beq_eq_false_iff_ne];exact h);have EE:Hid (takesS o k=((k:Int) == arS o)):=Lh (by rw [takesS,if_neg h,Bool.eq_iff_iff];simp);have AC:Hid (∀ W,Calls Tryz.prog 173 #[.int .i64 o] W fun e w'=>e=.returned (.int .i64 (arS o))∧W=w'):=(Lh fun W=>arity_any o W);clear h;generalize arS o=A at *
  go_enter Tryz.func142,Tryz.ntmps142
  go_wp2_with (go_at_call 173;((with_reducible refine (AC.out _).mono ?_);rintro e w' ⟨rfl,rfl⟩))
  go_ret;exact⟨retb (by rw [EE.out]),rfl⟩
theorem great_any (o:Int) (w:World):Calls Tryz.prog 143 #[.int .i64 o] w fun e w'=>e=.returned (.int .i64 (greatS o))∧w=w':=by
 by_cases h:o=1
 ·subst h
  go_enter Tryz.func143,Tryz.ntmps143
  go_wp2;go_ret;exact⟨rfl,rfl⟩
 ·have h0:(o == 1)=false:=(by rw [beq_eq_false_iff_ne];exact h);have EE:Hid (greatS o=0):=Lh (if_neg h);clear h;rw [EE.out]
  go_enter Tryz.func143,Tryz.ntmps143
  go_wp2;go_ret;exact⟨rfl,rfl⟩
theorem isVr_any (o:Int) (w:World):Calls Tryz.prog 144 #[.int .i64 o] w fun e w'=>e=.returned (.bool (isVr o))∧w=w':=by
 go_enter Tryz.func144,Tryz.ntmps144
 go_wp2;go_ret;exact⟨retb (by unfold isVr;rw [Bool.eq_iff_iff];simp),rfl⟩
theorem isAr_any (o:Int) (w:World):Calls Tryz.prog 145 #[.int .i64 o] w fun e w'=>e=.returned (.bool (isAr o))∧w=w':=by
 by_cases h:o=3
 ·subst h
  go_enter Tryz.func145,Tryz.ntmps145
  go_wp2;go_ret;exact⟨rfl,rfl⟩
 ·have h0:(o == 3)=false:=(by rw [beq_eq_false_iff_ne];exact h);have EE:Hid (isAr o=(o == 24)):=Lh (by unfold isAr;rw [Bool.eq_iff_iff];simp [h]);clear h
  go_enter Tryz.func145,Tryz.ntmps145
  go_wp2;go_ret;exact⟨retb (by rw [EE.out]),rfl⟩
def tInt (n:Int) (w:World) (e:Ending) (w':World):Prop:=e=.returned (.int .i64 n)∧Below w.heap.size w w'
theorem tInt_mk {a n:Int} {w w':World} (h:a=n) (hb:Below w.heap.size w w'):tInt n w (.returned (.int .i64 a)) w':=by subst h;exact⟨rfl,hb⟩
theorem drewB {W w1:World} {n:Nat} (h:Below W.heap.size W w1):Below W.heap.size W (w1.drewN n):=⟨h.os,h.tape,h.output,h.size,h.block⟩
theorem quietL {P:Program} {f:FuncId} {args:Array Value} {w:World} {n:Nat} {v:Value}
  (h:Calls P f args (w.drewN n) fun e w'=>e=.returned v∧w.drewN n=w'):Calls P f args (w.drewN n) fun e w''=>e=.returned v∧∃ m,w''=w.drewN m :=
 h.mono fun _ _ ⟨he,hm⟩=>⟨he,n,hm.symm⟩
theorem quietA {P:Program} {f:FuncId} {args:Array Value} {w:World} {a n:Nat} {v:Value}
  (h:Calls P f args (w.drewN (a+n)) fun e w'=>e=.returned v∧w.drewN (a+n)=w') :
  Calls P f args (w.drewN (a+n)) fun e w''=>e=.returned v∧∃ m,w''=w.drewN (a+m) :=
 h.mono fun _ _ ⟨he,hm⟩=>⟨he,n,hm.symm⟩
theorem str_empty (s:ByteArray):s.toList.isEmpty=decide (s.size=0):=by
 rw [Lib.toList_data,←len_data];cases s.data.toList<;>simp
theorem fault_any (o n:Int) (s:ByteArray) (p:Option Addr) (k cap:Nat) (w:World) (hs:s.size≤140737488351232) (hk:k≤140737488351232) (ht:Tab w) :
  Calls Tryz.prog 95 #[xv o n s (.slice p k cap)] w (tInt (fltS ⟨0,o,n,s,k⟩) w):=by
 have HT:=Lh ht;have TC:Hid (∀ W,Calls Tryz.prog 142 #[.int .i64 o,.int .i64 k] W fun e w'=>e=.returned (.bool (takesS o k))∧W=w'):=(Lh fun W=>takes_any o k W hk);have GC:Hid (∀ W,Calls Tryz.prog 143 #[.int .i64 o] W fun e w'=>e=.returned (.int .i64 (greatS o))∧W=w'):=(Lh fun W=>great_any o W);have VC:Hid (∀ W,Calls Tryz.prog 144 #[.int .i64 o] W fun e w'=>e=.returned (.bool (isVr o))∧W=w'):=(Lh fun W=>isVr_any o W);have AC:Hid (∀ W,Calls Tryz.prog 145 #[.int .i64 o] W fun e w'=>e=.returned (.bool (isAr o))∧W=w'):=(Lh fun W=>isAr_any o W);have NV:Hid (∀ W,Below w.heap.size w W→Calls Tryz.prog 146 #[.string s] W fun e w'=>e=.returned (.bool (varB s.data.toList))∧Below W.heap.size W w'):=(Lh fun W hb=>isVar_any s W hs (HT.out.later hb));have NA:Hid (∀ W,Below w.heap.size w W→Calls Tryz.prog 76 #[.string s] W fun e w'=>e=.returned (.bool (nmB s.data.toList))∧Below W.heap.size W w'):=(Lh fun W hb=>by rw [←nameS_eq];exact isName_any s W hs (HT.out.later hb));have FF:Hid (fltS ⟨0,o,n,s,k⟩=if (!takesS o k||(decide (n<0)||(decide (greatS o<n)||(!decide (s.size=0)&&(!isVr o&&!isAr o)))))=true then 1 else if ((isVr o&&!varB s.data.toList)||(isAr o&&!nmB s.data.toList))=true then 7 else 0):=Lh rfl;have HB0:Hid (∀ a,Below w.heap.size w ((w.alloc (.cells #[.int .i64 o,.int .i64 n,.string s,.slice p k cap] 43)).drewN a)):=(Lh fun a=>drewB ((Below.refl _ _).alloc (Nat.le_refl _) _));have hse:=str_empty s;clear ht hs;generalize takesS o k=T at *
 generalize greatS o=G at *
 generalize isVr o=V at *
 generalize isAr o=A at *
 generalize varB s.data.toList=B at *
 generalize nmB s.data.toList=C at *
 generalize decide (s.size=0)=Z at *
 cases T
 ·go_enter Tryz.func95,Tryz.ntmps95
  go_wp2;go_quiet (fail)
  go_wp2_with (first
   |(go_at_call 142;((with_reducible refine (TC.out _).mono ?_);rintro e w1 ⟨rfl,rfl⟩)))
  go_ret;exact tInt_mk (by rw [FF.out];rfl) (HB0.out _)
 ·by_cases hn:n<0
  ·have FE:Hid (fltS ⟨0,o,n,s,k⟩=1):=Lh (by rw [FF.out,decide_eq_true hn];rfl);clear FF
   go_enter Tryz.func95,Tryz.ntmps95
   go_wp2;go_quiet (fail)
   go_wp2_with (first
    |(go_at_call 142;((with_reducible refine (TC.out _).mono ?_);rintro e w1 ⟨rfl,rfl⟩)))
   go_ret;exact tInt_mk FE.out.symm (HB0.out _)
  ·have FF2:=FF.out;rw [decide_eq_false hn] at FF2;have FF2:=Lh FF2;clear FF;by_cases hg:G<n
   ·have FE:Hid (fltS ⟨0,o,n,s,k⟩=1):=Lh (by rw [FF2.out,decide_eq_true hg];rfl);clear FF2
    go_enter Tryz.func95,Tryz.ntmps95
    go_wp2;go_quiet (fail)
    go_wp2_with (first
     |(go_at_call 142;((with_reducible refine (TC.out _).mono ?_);rintro e w1 ⟨rfl,rfl⟩)))
    go_quiet ((go_at_call 143;exact quietA (GC.out _)))
    go_wp2;go_ret;exact tInt_mk FE.out.symm (by first | exact HB0.out _ | exact drewB (HB0.out _))
   ·have FF3:=FF2.out;rw [decide_eq_false hg] at FF3;have FF3:=Lh FF3;clear FF2;cases Z<;>cases V<;>cases A<;>cases B<;>cases C
    all_goals
     have FE:=Lh FF3.out;clear FF3
     go_enter Tryz.func95,Tryz.ntmps95
     go_wp2;go_quiet (fail)
     go_wp2_with (first
      |(go_at_call 142;((with_reducible refine (TC.out _).mono ?_);rintro e w1 ⟨rfl,rfl⟩)))
     go_quiet ((go_at_call 143;exact quietA (GC.out _)))
     go_wp2_with (first
      |(go_at_call 144;((with_reducible refine (VC.out _).mono ?_);rintro e w1 ⟨rfl,rfl⟩))
      |(go_at_call 145;((with_reducible refine (AC.out _).mono ?_);rintro e w1 ⟨rfl,rfl⟩))
      |(go_at_call 146;((with_reducible refine (NV.out _ (HB0.out _)).mono ?_);rintro e w1 ⟨rfl,hb⟩;have HB1:=Lh ((HB0.out _).then_ hb);clear hb))
      |(go_at_call 76;((with_reducible refine (NA.out _ (HB0.out _)).mono ?_);rintro e w1 ⟨rfl,hb⟩;have HB1:=Lh ((HB0.out _).then_ hb);clear hb))
      |(go_at_call 76;((with_reducible refine (NA.out _ HB1.out).mono ?_);rintro e w2 ⟨rfl,hb⟩;have HB2:=Lh (HB1.out.then_ hb);clear hb)))
     go_ret;exact tInt_mk (by rw [FE.out];rfl) (by first | exact HB0.out _ | exact HB2.out | exact HB1.out)
end ExW
end Go.Proofs.YtpejflgdehioaaaGreatDoor
