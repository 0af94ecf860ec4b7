/-
  Laws that the card uses; no conditions beside those that each states (NumText ExMath ItMath LexSmall ExNameS ExNameR ExAr ExFault ExRefA).
-/
import Derived.Test.YtihnejaopejbgaaGreatDoorP13
set_option maxRecDepth 100000
set_option maxHeartbeats 16000000
namespace Go.Proofs.YtihnejaopejbgaaGreatDoor
namespace NumM
open Go Go.RowKit
theorem vl_append (a b:List UInt8) (acc:Nat):vl acc (a++b)=vl (vl acc a) b:=List.foldl_append ..
end NumM
namespace ExM
open Go WordM LexM
open Classical in
noncomputable def addN (l:List ByteArray) (s:ByteArray):List ByteArray:=if s∈l then l else l++[s]
noncomputable def stepN (p:Int→Bool) (l:List ByteArray) (x:In):List ByteArray:=if p x.op then addN l x.nm else l
noncomputable def namesL (p:Int→Bool) (L:List In):List ByteArray:=L.foldl (stepN p) []
end ExM
namespace ItM
open Go WordM LexM ExM
open ClM (Fld firstE firstE_zero firstE_at)
theorem len_iszs (l:List It):l.length≤iszs l:=by
 induction l with
 | nil=>simp
 | cons a r ih=>rw [iszs_cons,isz_eq];simp;omega
end ItM
namespace LexW
open Go Go.RowKit NumM LexM
theorem smallR_any (c:Int) (w:World):Calls Tryz.prog 96 #[.int .u8 c] w fun e w'=>e=.returned (.bool (smI c))∧w=w':=by
 by_cases h1:97≤c
 ·by_cases h2:c≤122
  all_goals
   go_enter Tryz.func96,Tryz.ntmps96
   go_wp2;go_ret;exact⟨retb (by simp [smI,h1,h2]),rfl⟩
 ·have h2:(smI c)=false:=by simp [smI];omega
  go_enter Tryz.func96,Tryz.ntmps96
  go_wp2;go_ret;exact⟨rfl,rfl⟩
theorem digitR_any (c:Int) (w:World):Calls Tryz.prog 123 #[.int .u8 c] w fun e w'=>e=.returned (.bool (dgI c))∧w=w':=by
 by_cases h1:48≤c
 ·by_cases h2:c≤57
  all_goals
   go_enter Tryz.func123,Tryz.ntmps123
   go_wp2;go_ret;exact⟨retb (by simp [dgI,h1,h2]),rfl⟩
 ·have h2:(dgI c)=false:=by simp [dgI];omega
  go_enter Tryz.func123,Tryz.ntmps123
  go_wp2;go_ret;exact⟨rfl,rfl⟩
def atL (ys:List (List UInt8)) (j:Nat):List UInt8:=(ys[j]?).getD []
theorem atL_of {ys:List (List UInt8)} {j:Nat} {m:List UInt8} (h:ys[j]? = some m):atL ys j=m:=by unfold atL;rw [h];rfl
def tabF (ys:List (List UInt8)):Nat→Value:=fun j=>.string (bs (atL ys j))
theorem row_tab (w:World) (ys:List (List UInt8)) (t:TypeId):(w.alloc (.cells (ys.map fun y=>Value.string (bs y)).toArray t)).rowIs w.heap.size t ys.length (tabF ys):=by
 refine⟨_,heap_alloc_new _ _,by simp,fun i hi=>?_⟩;rw [List.getElem?_toArray,List.getElem?_map,List.getElem?_eq_getElem hi];show some (Value.string (bs ys[i]))=_;unfold tabF;rw [atL_of (List.getElem?_eq_getElem hi)]
def tTab (ys:List (List UInt8)) (w:World) (e:Ending) (w':World):Prop:=∃ g,e=.returned (.slice (some ⟨g,0,none⟩) ys.length ys.length)∧w'.rowIs g 9 ys.length (tabF ys)∧Below w.heap.size w w'
theorem keywords_any (w:World):Calls Tryz.prog 122 #[] w (tTab kws w):=by
 go_enter Tryz.func122,Tryz.ntmps122
 go_wp2;go_ret;exact⟨_,rfl,row_tab w kws _,(Below.refl _ _).alloc (Nat.le_refl _) _⟩
theorem has_any (ys:List (List UInt8)) (g:Nat) (s:ByteArray) (w:World) (hr:w.rowIs g 9 ys.length (tabF ys)) (hn:ys.length≤100) :
  Calls Tryz.prog 121 #[.slice (some ⟨g,0,none⟩) ys.length ys.length,.string s] w fun e w'=>e=.returned (.bool (decide (s.data.toList∈ys)))∧w=w':=by
 have HR:=Lh hr;clear hr;obtain⟨n,hnn⟩:∃ n,ys.length=n:=⟨_,rfl⟩;have HN:=Lh hnn;rw [hnn] at HR hn ⊢;clear hnn
 go_enter Tryz.func121,Tryz.ntmps121
 go_wp2;go_loop [5] (fun i=>∃ k:Nat,k≤n∧i=.int .i64 k∧Hid (∀ j,j<k→ys[j]?≠some s.data.toList)) (fun i=>n - (intOf i).toNat)
 case atStart=>exact⟨0,Nat.zero_le _,rfl,Lh fun j hj=>by omega⟩
 case round =>
  obtain⟨k,hk,rfl,NO⟩:=hrel;by_cases hlt:k<n
  ·obtain⟨m,hm⟩:∃ m,ys[k]? = some m:=⟨_,List.getElem?_eq_getElem (by rw [HN.out];exact hlt)⟩;have hck:=HR.out.cell hlt;unfold tabF at hck;rw [atL_of hm] at hck;have HM:=Lh hm;clear hm;by_cases e:m=s.data.toList
   ·have e1:((bs m).toList == s.toList)=true:=(by rw [Lib.toList_data,Lib.toList_data,e];simp);have FIN:Hid (true=decide (s.data.toList∈ys)):=Lh (by rw [eq_comm,decide_eq_true_eq,←e];exact List.mem_of_getElem? HM.out);obtain⟨y,hy⟩:∃ y,bs m=y:=⟨_,rfl⟩;rw [hy] at e1 hck;clear e hy;go_wp2;go_ret;exact⟨retb FIN.out,rfl⟩
   ·have e1:((bs m).toList == s.toList)=false:=(by rw [Lib.toList_data,Lib.toList_data];simpa using e);have NO2:Hid (∀ j,j<k+1→ys[j]?≠some s.data.toList):=Lh fun j hj x=>by
     by_cases hjk:j=k
     ·rw [hjk,HM.out] at x;exact e (Option.some.inj x)
     ·exact NO.out j (by omega) x
    obtain⟨y,hy⟩:∃ y,bs m=y:=⟨_,rfl⟩;rw [hy] at e1 hck;clear e hy;go_wp2;go_round
    case rel=>exact⟨k+1,by omega,by go_num,NO2⟩
    case measure=>simp [intOf];omega
  ·have FIN:Hid (false=decide (s.data.toList∈ys)):=Lh (by
    rw [eq_comm,decide_eq_false_iff_not];intro x;obtain⟨j,hj,he⟩:=List.mem_iff_getElem.1 x;exact NO.out j (by rw [HN.out] at hj;omega) (by rw [List.getElem?_eq_getElem hj,he]))
   go_wp2;go_ret;exact⟨retb FIN.out,rfl⟩
theorem kwR_any (s:ByteArray) (w:World):Calls Tryz.prog 97 #[.string s] w fun e w'=>e=.returned (.bool (isKw s.data.toList))∧Below w.heap.size w w':=by
 go_enter Tryz.func97,Tryz.ntmps97
 go_wp2_with (first
  |(go_at_call 122;((with_reducible refine (keywords_any _).mono ?_);rintro e w1 ⟨g,rfl,hr,hb⟩;have HR:=Lh hr;have HB:=Lh hb;clear hr hb))
  |(go_at_call 121;((with_reducible refine (has_any kws g s _ HR.out (by decide)).mono ?_);rintro e w' ⟨rfl,rfl⟩)))
 go_ret;exact⟨rfl,HB.out⟩
theorem inner_any (c:UInt8) (w:World):Calls Tryz.prog 98 #[.int .u8 (c.toNat:Int)] w fun e w'=>e=.returned (.bool (wrd c))∧w=w':=by
 have HC:=Lh (wrI_byte c);obtain⟨n,hn⟩:∃ n:Int,(c.toNat:Int)=n:=⟨_,rfl⟩;rw [hn] at HC ⊢;rw [←HC.out];clear hn HC
 go_enter Tryz.func98,Tryz.ntmps98
 go_wp2_with (first | (go_at_call 96;refine (smallR_any _ _).mono ?_;rintro e w' ⟨rfl,rfl⟩) | (go_at_call 123;refine (digitR_any _ _).mono ?_;rintro e w' ⟨rfl,rfl⟩))
 all_goals
  go_ret;exact⟨retb (by simp_all [wrI];try (intros;omega)),rfl⟩
theorem nmB_of (s:ByteArray) (h0:0<s.size):nmB s.data.toList=(decide (s.size≤16)&&(sml s[0]&&(!isKw s.data.toList&&s.data.toList.all wrd))):=by
 have hl:=len_data s;rcases hx:s.data.toList with _ | ⟨c,r⟩
 ·rw [hx] at hl;simp at hl;omega
 ·obtain⟨_,hc⟩:=head_of s hx;rw [hx,List.length_cons] at hl;rw [hc,←hl];rfl
theorem not_allW {s:ByteArray} {k:Nat} (h:k<s.size) (g:wrd s[k]=false):s.data.toList.all wrd=false:=by
 cases e:s.data.toList.all wrd
 ·rfl
 ·have hm:s[k]∈s.data.toList:=by
   have:s.data.toList[k]'(by simpa using h)=s[k]:=rfl;rw [←this];exact List.getElem_mem _
  have:=List.all_eq_true.1 e _ hm;rw [g] at this;cases this
theorem nameR_any (s:ByteArray) (w:World) (hs:s.size≤140737488351232):Calls Tryz.prog 63 #[.string s] w (tBool (nmB s.data.toList) w):=by
 have KC:=(fun W=>kwR_any s W);by_cases h0:0<s.size
 ·have e0:s.toList.isEmpty=false:=by
   rw [Lib.toList_data];have:=len_data s;cases hx:s.data.toList with
   | nil=>rw [hx] at this;simp at this;omega
   | cons a b=>rfl
  have hn:=nmB_of s h0;by_cases h16:16<s.size
  ·have EE:Hid (false=nmB s.data.toList):=Lh (by rw [hn,decide_eq_false (by omega)];rfl);clear hn KC
   go_enter Tryz.func63,Tryz.ntmps63
   go_wp2;go_ret;exact tBool_mk EE.out (Below.refl _ _)
  rw [decide_eq_true (show s.size≤16 by omega)] at hn;have hsm:=sm_byte s[0];cases h1:sml s[0]
  ·rw [h1] at hsm;have EE:Hid (false=nmB s.data.toList):=Lh (by rw [hn,h1];rfl);clear hn KC h1
   go_enter Tryz.func63,Tryz.ntmps63
   go_wp2_with (go_at_call 96;refine (smallR_any _ _).mono ?_;rintro e w' ⟨rfl,rfl⟩)
   go_ret;exact tBool_mk EE.out (Below.refl _ _)
  ·rw [h1] at hsm hn;cases h2:isKw s.data.toList
   ·rw [h2] at KC hn;have KC:=Lh KC;have HN:=Lh hn;clear hn h1 h2
    go_enter Tryz.func63,Tryz.ntmps63
    go_wp2_with (first | (go_at_call 96;refine (smallR_any _ _).mono ?_;rintro e w' ⟨rfl,rfl⟩) | (go_at_call 97;((with_reducible refine (KC.out _).mono ?_);rintro e w1 ⟨rfl,hb⟩;have HB:=Lh hb;clear hb)))
    go_loop [3] (fun i=>∃ k:Nat,k≤s.size∧i=.int .i64 k∧Hid ((s.data.toList.take k).all wrd=true)) (fun i=>s.size - (intOf i).toNat)
    case atStart=>exact⟨0,Nat.zero_le _,rfl,Lh rfl⟩
    case round =>
     obtain⟨k,hk,rfl,AL⟩:=hrel;by_cases hlt:k<s.size
     ·have IC:∀ W,Calls Tryz.prog 98 #[.int .u8 (s[k].toNat:Int)] W fun e w'=>e=.returned (.bool (wrd s[k]))∧W=w':=fun W=>inner_any s[k] W
      cases hw:wrd s[k]
      ·rw [hw] at IC;have EE:Hid (false=nmB s.data.toList):=Lh (by rw [HN.out,not_allW hlt hw];rfl);have IC:=Lh IC;clear hw;go_wp2_with (go_at_call 98;((with_reducible refine (IC.out _).mono ?_);rintro e w' ⟨rfl,rfl⟩))
       go_ret;exact tBool_mk EE.out HB.out
      ·rw [hw] at IC;have A2:Hid ((s.data.toList.take (k+1)).all wrd=true):=Lh (by rw [take_snoc s k hlt,List.all_append,AL.out];simp [hw]);have IC:=Lh IC;clear hw;go_wp2_with (go_at_call 98;((with_reducible refine (IC.out _).mono ?_);rintro e w' ⟨rfl,rfl⟩))
       go_round
       case rel=>exact⟨k+1,by omega,by go_num,A2⟩
       case measure=>simp [intOf];omega
     ·have EE:Hid (true=nmB s.data.toList):=Lh (by
       have:=AL.out;rw [List.take_of_length_le (by rw [len_data];omega)] at this;rw [HN.out,this];rfl)
      go_wp2;go_ret;exact tBool_mk EE.out HB.out
   ·rw [h2] at KC hn;have KC:=Lh KC;have EE:Hid (false=nmB s.data.toList):=Lh (by rw [hn];rfl);clear hn h1 h2
    go_enter Tryz.func63,Tryz.ntmps63
    go_wp2_with (first | (go_at_call 96;refine (smallR_any _ _).mono ?_;rintro e w' ⟨rfl,rfl⟩) | (go_at_call 97;((with_reducible refine (KC.out _).mono ?_);rintro e w1 ⟨rfl,hb⟩;have HB:=Lh hb;clear hb)))
    go_ret;exact tBool_mk EE.out HB.out
 ·have hx:s.data.toList=[]:=List.length_eq_zero_iff.1 (by rw [len_data];omega);have e0:s.toList=[]:=(by rw [Lib.toList_data,hx]);have EE:Hid (false=nmB s.data.toList):=Lh (by rw [hx];rfl);clear hx KC
  go_enter Tryz.func63,Tryz.ntmps63
  go_wp2;go_ret;exact tBool_mk EE.out (Below.refl _ _)
end LexW
namespace ExW
open Go Go.RowKit LexW LexM ExM
theorem arityR_any (o:Int) (w:World):Calls Tryz.prog 183 #[.int .i64 o] w fun e w'=>e=.returned (.int .i64 (arS o))∧w=w':=by
 by_cases h:1≤o∧o≤25
 ·rcases cases25 h with rfl | rfl | rfl | rfl | rfl | rfl | rfl | rfl | rfl | rfl | rfl | rfl | rfl | rfl | rfl | rfl | rfl | rfl | rfl | rfl | rfl | rfl | rfl | rfl | rfl
  all_goals
   go_enter Tryz.func183,Tryz.ntmps183
   go_wp2;go_ret;exact⟨rfl,rfl⟩
 ·rw [ar_out h];have f1:(o == 1)=false:=(by rw [beq_eq_false_iff_ne];omega);have f2:(o == 2)=false:=(by rw [beq_eq_false_iff_ne];omega);have f3:(o == 3)=false:=(by rw [beq_eq_false_iff_ne];omega);have f4:(o == 4)=false:=(by rw [beq_eq_false_iff_ne];omega);have f5:(o == 5)=false:=(by rw [beq_eq_false_iff_ne];omega);have f6:(o == 6)=false:=(by rw [beq_eq_false_iff_ne];omega);have f7:(o == 7)=false:=(by rw [beq_eq_false_iff_ne];omega);have f8:(o == 8)=false:=(by rw [beq_eq_false_iff_ne];omega);have f9:(o == 9)=false:=(by rw [beq_eq_false_iff_ne];omega);have f10:(o == 10)=false:=(by rw [beq_eq_false_iff_ne];omega);have f11:(o == 11)=false:=(by rw [beq_eq_false_iff_ne];omega);have f12:(o == 12)=false:=(by rw [beq_eq_false_iff_ne];omega);have f13:(o == 13)=false:=(by rw [beq_eq_false_iff_ne];omega);have f14:(o == 14)=false:=(by rw [beq_eq_false_iff_ne];omega);have f15:(o == 15)=false:=(by rw [beq_eq_false_iff_ne];omega);have f16:(o == 16)=false:=(by rw [beq_eq_false_iff_ne];omega);have f17:(o == 17)=false:=(by rw [beq_eq_false_iff_ne];omega);have f18:(o == 18)=false:=(by rw [beq_eq_false_iff_ne];omega);have f19:(o == 19)=false:=(by rw [beq_eq_false_iff_ne];omega);have f20:(o == 20)=false:=(by rw [beq_eq_false_iff_ne];omega);have f21:(o == 21)=false:=(by rw [beq_eq_false_iff_ne];omega);have f22:(o == 22)=false:=(by rw [beq_eq_false_iff_ne];omega);have f23:(o == 23)=false:=(by rw [beq_eq_false_iff_ne];omega);have f24:(o == 24)=false:=(by rw [beq_eq_false_iff_ne];omega);have f25:(o == 25)=false:=(by rw [beq_eq_false_iff_ne];omega);have h1:decide (o<1)=true∨(decide (o<1)=false∧decide (25<o)=true):=by
   by_cases g:o<1
   ·exact .inl (by simpa using g)
   ·exact .inr ⟨by simpa using g,by simp;omega⟩
  clear h;rcases h1 with h1 | ⟨h1,h2⟩
  all_goals
   go_enter Tryz.func183,Tryz.ntmps183
   go_wp2;go_ret;exact⟨rfl,rfl⟩
end ExW
namespace ExW
open Go Go.RowKit NumM LexW LexM ExM
theorem quietL {P:Program} {f:FuncId} {args:Array Value} {w:World} {n:Nat} {v:Value}
  (h:Calls P f args (w.drewN n) fun e w'=>e=.returned v∧w.drewN n=w'):Calls P f args (w.drewN n) fun e w''=>e=.returned v∧∃ m,w''=w.drewN m :=
 h.mono fun _ _ ⟨he,hm⟩=>⟨he,n,hm.symm⟩
theorem named_any (o:Int) (w:World):Calls Tryz.prog 182 #[.int .i64 o] w fun e w'=>e=.returned (.bool (isVr o||isAr o))∧w=w':=by
 by_cases h2:o=2
 ·subst h2
  go_enter Tryz.func182,Tryz.ntmps182
  go_wp2;go_ret;exact⟨rfl,rfl⟩
 ·by_cases h3:o=3
  ·subst h3
   go_enter Tryz.func182,Tryz.ntmps182
   go_wp2;go_ret;exact⟨rfl,rfl⟩
  ·have e2:(o == 2)=false:=(by rw [beq_eq_false_iff_ne];exact h2);have e3:(o == 3)=false:=(by rw [beq_eq_false_iff_ne];exact h3);have EE:Hid ((isVr o||isAr o)=(o == 24)):=Lh (by unfold isVr isAr;rw [decide_eq_false h2,decide_eq_false h3,Bool.eq_iff_iff];simp);clear h2 h3
   go_enter Tryz.func182,Tryz.ntmps182
   go_wp2;go_ret;exact⟨retb (by rw [EE.out]),rfl⟩
open Classical in
noncomputable def inL (s:ByteArray) (l:List ByteArray):Bool:=decide (s∈l)
open Classical in
theorem inL_yes {s:ByteArray} {l:List ByteArray} {i:Nat} {t:ByteArray} (h:l[i]? = some t) (e:t.data.toList=s.data.toList):inL s l=true:=by
 unfold inL;obtain rfl:=bs_inj e;exact decide_eq_true (List.mem_of_getElem? h)
open Classical in
theorem inL_no {s:ByteArray} {l:List ByteArray} (h:∀ (i:Nat) t,i<l.length→l[i]? = some t→t.data.toList≠s.data.toList):inL s l=false:=by
 unfold inL;refine (decide_eq_false fun hm=>?_);obtain⟨i,hi,e⟩:=List.mem_iff_getElem.1 hm;exact h i s hi (by rw [List.getElem?_eq_getElem hi,e]) rfl
theorem has_any (l:List ByteArray) (v:Value) (s:ByteArray) (w:World) (h:StrsA w v l) (hl:l.length≤9000000) :
  Calls Tryz.prog 168 #[v,.string s] w fun e w'=>e=.returned (.bool (inL s l))∧w=w':=by
 obtain⟨p,cap,rfl,hcap,hx⟩:=h;have HX:=Lh hx;clear hx hcap;obtain⟨n,hnn⟩:∃ n,l.length=n:=⟨_,rfl⟩;have HN:=Lh hnn;rw [hnn] at hl ⊢;clear hnn
 go_enter Tryz.func168,Tryz.ntmps168
 go_wp2;go_loop [5] (fun i=>∃ k:Nat,k≤n∧i=.int .i64 k∧Hid (∀ (j:Nat) t,j<k→l[j]? = some t→t.data.toList≠s.data.toList)) (fun i=>n - (intOf i).toNat)
 case atStart=>exact⟨0,Nat.zero_le _,rfl,Lh fun j _ h=>by omega⟩
 case round =>
  obtain⟨k,hk,rfl,NO⟩:=hrel;by_cases hlt:k<n
  ·obtain⟨b,off,rfl,hcell⟩:=HX.out (by rw [HN.out];omega);obtain⟨y,hyk⟩:∃ y,l[k]? = some y:=⟨_,List.getElem?_eq_getElem (by rw [HN.out];exact hlt)⟩;have ca0:=hcell k y hyk;have HY:=Lh hyk;clear hcell hyk;by_cases e:y.data.toList=s.data.toList
   ·have e1:(y.toList == s.toList)=true:=(by rw [Lib.toList_data,Lib.toList_data,e];simp);have EE:=Lh (inL_yes HY.out e);clear e;go_wp2;go_ret;exact⟨retb EE.out.symm,rfl⟩
   ·have e1:(y.toList == s.toList)=false:=(by rw [Lib.toList_data,Lib.toList_data];simpa using e);have NO2:Hid (∀ (j:Nat) t,j<k+1→l[j]? = some t→t.data.toList≠s.data.toList):=Lh fun j t hj ht=>by
     rcases Nat.lt_or_ge j k with h | h
     ·exact NO.out j t h ht
     ·obtain rfl:j=k:=(by omega);rw [HY.out] at ht;cases ht;exact e
    clear e;go_wp2;go_round
    case rel=>exact⟨k+1,by omega,by go_num,NO2⟩
    case measure=>simp [intOf];omega
  ·have EE:=Lh (inL_no (s:=s) (l:=l) (fun i t hi ht=>NO.out i t (by rw [HN.out] at hi;omega) ht));go_wp2;go_ret;exact⟨retb EE.out.symm,rfl⟩
end ExW
end Go.Proofs.YtihnejaopejbgaaGreatDoor
