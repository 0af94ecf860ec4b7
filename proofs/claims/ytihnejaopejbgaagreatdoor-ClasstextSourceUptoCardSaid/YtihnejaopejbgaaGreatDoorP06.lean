/-
  Laws that the card uses; no conditions beside those that each states (ExLexSpan PackParse ExLexFour).
-/
import Derived.Lib.MapLaws
import Derived.Laws.RangeAny
import Derived.Test.YtihnejaopejbgaaGreatDoorNumShelf
import Derived.Lib.SmallJoins
import Derived.Lib.AppendIntMem
import Derived.WalkSmall
import Derived.Test.YtihnejaopejbgaaGreatDoorP03
set_option maxRecDepth 100000
set_option maxHeartbeats 16000000
namespace Go.Proofs.YtihnejaopejbgaaGreatDoor
namespace LexW
open Go Go.RowKit NumM LexM
theorem take_snoc (s:ByteArray) (k:Nat) (h:k<s.size):s.data.toList.take (k+1)=s.data.toList.take k++[s[k]]:=by
 rw [List.take_succ_eq_append_getElem (by simpa using h)];rfl
theorem len_data (s:ByteArray):s.data.toList.length=s.size:=by simp
theorem drop_cons (s:ByteArray) (k:Nat) (h:k<s.size):s.data.toList.drop k=s[k]::s.data.toList.drop (k+1):=by
 rw [List.drop_eq_getElem_cons (by simpa using h)];rfl
def wrI (c:Int):Bool:=smI c||(dgI c||((decide (65≤c)&&decide (c≤90))||(c == 95)))
theorem wrI_byte (c:UInt8):wrI (c.toNat:Int)=wrd c:=by
 rw [Bool.eq_iff_iff];simp [wrI,smI,dgI,wrd,sml,dgt,capl];omega
theorem wrI_high {c:Int} (h:128≤c):wrI c=false:=by
 simp [wrI,smI,dgI];omega
theorem inWord_any (c:Int) (w:World):Calls Tryz.prog 144 #[.int .i32 c] w fun e w'=>e=.returned (.bool (wrI c))∧w=w':=by
 go_enter Tryz.func144,Tryz.ntmps144
 go_wp2_with (first | (go_at_call 146;refine (isSmall_any _ _).mono ?_;rintro e w' ⟨rfl,rfl⟩) | (go_at_call 148;refine (isDigit_any _ _).mono ?_;rintro e w' ⟨rfl,rfl⟩))
 all_goals
  go_ret;exact⟨retb (by simp_all [wrI];try (intros;omega)),rfl⟩
theorem takeWhile_at {p:UInt8→Bool} {l:List UInt8} {k:Nat} (h:(l.take k).all p=true) (hs:l.length≤k∨∃ c r,l.drop k=c::r∧p c=false) (hk:k≤l.length):(l.takeWhile p).length=k:=by
 have e1:l.takeWhile p=l.take k++(l.drop k).takeWhile p:=by
  have:=List.takeWhile_append_of_pos (p:=p) (l₁:=l.take k) (l₂:=l.drop k) (fun a ha=>List.all_eq_true.1 h a ha);rw [List.take_append_drop] at this;exact this
 have hlen:(l.take k).length=k:=(by rw [List.length_take];omega);rcases hs with hs | ⟨c,r,hd,hc⟩
 ·rw [e1,List.drop_eq_nil_of_le hs];simp only [List.takeWhile_nil,List.append_nil];exact hlen
 ·rw [e1,hd,List.takeWhile_cons,hc];simp only [Bool.false_eq_true,if_false,List.append_nil];exact hlen
def tInt (n:Nat) (w:World) (e:Ending) (w':World):Prop:=e=.returned (.int .i64 (n:Int))∧Below w.heap.size w w'
theorem tInt_mk {n m:Nat} {w w':World} (h:m=n) (hb:Below w.heap.size w w'):tInt n w (.returned (.int .i64 (m:Int))) w':=by subst h;exact⟨rfl,hb⟩
theorem below_iter (w:World) (s:ByteArray) (pos:Nat):Below w.heap.size w (w.iter s pos):=(Below.refl _ _).alloc (Nat.le_refl _) _
theorem spanWord (s:ByteArray) (w:World) :
  Calls Tryz.prog 143 #[.string s,.func (.func 144) #[] #[]] w (tInt (wordS s.data.toList).length w):=by
 go_enter Tryz.func143,Tryz.ntmps143
 go_wp2;go_loopw [5] (fun _ wr=>∃ pos:Nat,wr=w.iter s pos∧pos≤s.size∧(s.data.toList.take pos).all wrd=true) (fun _ wr=>s.size - wr.iterPos w.heap.size)
 case atStart=>exact⟨0,rfl,Nat.zero_le _,rfl⟩
 case round =>
  obtain⟨pos,rfl,hk,ha⟩:=hrel;have HA:=Lh ha;clear ha;by_cases hp:pos<s.size
  ·by_cases h7:s[pos].toNat<128
   ·have hnx:∀ ty,(Instr.next (.pointer (some ⟨w.heap.size,0,none⟩)) true ty).run Tryz.prog (w.iter s pos)=_:=(fun ty=>run_next_ascii w s pos ty hp h7);have HW:=Lh (wrI_byte s[pos]);obtain⟨c,hc⟩:∃ c:Int,(s[pos].toNat:Int)=c:=⟨_,rfl⟩;rw [hc] at HW hnx;clear hc;have IW:∀ W,Calls Tryz.prog 144 #[.int .i32 c] W fun e w'=>e=.returned (.bool (wrI c))∧W=w':=fun W=>inWord_any c W
    rw [HW.out] at IW;cases hw:wrd s[pos]
    ·have HH:=Lh hw;rw [hw] at IW;clear hw;have IW:=Lh IW;go_wp2_with (go_at_call 144;refine (IW.out _).mono ?_;rintro e w' ⟨rfl,rfl⟩)
     go_ret;exact tInt_mk (takeWhile_at HA.out (.inr ⟨_,_,drop_cons s pos hp,HH.out⟩) (by rw [len_data];omega)).symm (below_iter _ _ _)
    ·have HH:=Lh hw;rw [hw] at IW;clear hw;have IW:=Lh IW;go_wp2_with (go_at_call 144;refine (IW.out _).mono ?_;rintro e w' ⟨rfl,rfl⟩)
     go_roundw
     case rel=>exact⟨pos+1,rfl,by omega,by rw [take_snoc s pos hp,List.all_append,HA.out];simp [HH.out]⟩
     case measure=>simp;omega
   ·have hnx:∀ ty,(Instr.next (.pointer (some ⟨w.heap.size,0,none⟩)) true ty).run Tryz.prog (w.iter s pos)=_:=(fun ty=>run_next_any w s pos ty hp);have hR:=decode_high s pos hp (by omega);have HH:Hid (wrd s[pos]=false):=Lh (by rw [←wrI_byte];exact wrI_high (by omega));obtain⟨R,hRR⟩:∃ R,(Utf8.decode s pos).1=R:=⟨_,rfl⟩;obtain⟨K,hKK⟩:∃ K,(Utf8.decode s pos).2=K:=⟨_,rfl⟩;rw [hRR,hKK] at hnx;rw [hRR] at hR;have IW:∀ W,Calls Tryz.prog 144 #[.int .i32 (R:Int)] W fun e w'=>e=.returned (.bool (wrI R))∧W=w':=fun W=>inWord_any R W
    rw [wrI_high (by omega)] at IW;have IW:=Lh IW;clear hRR hKK hR h7;go_wp2_with (go_at_call 144;refine (IW.out _).mono ?_;rintro e w' ⟨rfl,rfl⟩)
    go_ret;exact tInt_mk (takeWhile_at HA.out (.inr ⟨_,_,drop_cons s pos hp,HH.out⟩) (by rw [len_data];omega)).symm (below_iter _ _ _)
  ·have hnx:∀ ty,(Instr.next (.pointer (some ⟨w.heap.size,0,none⟩)) true ty).run Tryz.prog (w.iter s pos)=_:=(fun ty=>run_next_end w s pos ty hp);go_wp2;go_ret;exact tInt_mk (by rw [show s.size=pos by omega];exact (takeWhile_at HA.out (.inl (by rw [len_data];omega)) (by rw [len_data];omega)).symm) (below_iter _ _ _)
end LexW
namespace PackW
open Go Go.RowKit NumM
theorem take_snoc (s:ByteArray) (k:Nat) (h:k<s.size):s.data.toList.take (k+1)=s.data.toList.take k++[s[k]]:=by
 rw [List.take_succ_eq_append_getElem (by simpa using h)];rfl
theorem trim_any (s:ByteArray) (w:World) :
  Calls Tryz.prog 180 #[.string s,.string ⟨#[45]⟩] w fun e w'=>∃ d:ByteArray,e=.returned (.string d)∧d.data.toList=tl s.data.toList∧w=w' :=
 (Tryz.strings_TrimPrefix s ⟨#[45]⟩ w).mono fun _ _ ⟨he,hw⟩=>⟨_,he,by rw [←trim_eq],hw.symm⟩
theorem ret2 {a b c d:Int} (h:(a,b)=(c,d)):Ending.returned (.tuple #[.int .i64 a,.int .i64 b])=Ending.returned (.tuple #[.int .i64 c,.int .i64 d]):=by
 cases h;rfl
theorem retb {a b:Bool} (h:a=b):Ending.returned (.bool a)=.returned (.bool b):=by rw [h]
theorem formatCode_any (n : Int) (w : World) (h0 : -9223372036854775808 ≤ n) (h1 : n ≤ 9223372036854775807) (htab : Lib.TabIs Tryz.prog w "internal/strconv.uint64pow10" .u64 Lib.pow10Tab) :
  Calls Tryz.prog 40 #[.int .i64 n] w fun e w'=>e=.returned (.string ⟨(Lib.itoa n).toArray⟩)∧Below w.heap.size w w':=by
 go_enter Tryz.func40,Tryz.ntmps40
 have HT:=Lh htab;clear htab;go_wp2_with (go_at_call 69;refine (Tryz.strconv_Itoa n h0 h1 _ HT.out).mono ?_;rintro e w' ⟨rfl,k,os,rfl⟩)
 go_ret;exact⟨rfl,Lib.below_grow _ _ (Nat.le_refl _) _ _⟩
def parsed (l:List UInt8) (w:World) (e:Ending) (w':World):Prop:=e=.returned (.tuple #[.int .i64 (parseS l).1,.int .i64 (parseS l).2])∧Below w.heap.size w w'
theorem parseCode_yes (s : ByteArray) (w : World) (hs : s.size ≤ 140737488351232) (tp : TypeId) (p : Value) (hvar : w.var? Tryz.prog "strconv.ErrRange" = some #[.iface tp p]) (hdec : isDec s.data.toList = true) :
  Calls Tryz.prog 166 #[.string s] w (parsed s.data.toList w):=by
 have parts:=isDec_parts hdec;have p1:=Lh parts.1;have p2:=Lh parts.2.1;have p3:=Lh parts.2.2;have HV:=Lh hvar;have HDEC:=Lh hdec;clear parts hvar hdec
 go_enter Tryz.func166,Tryz.ntmps166
 go_wp2
 go_step3
 go_wp2_with (go_at_call 180;refine (trim_any _ _).mono ?_;rintro e w' ⟨d,rfl,hd,rfl⟩)
 have HD:=Lh hd;clear hd;have hl1:d.size≤s.size:=by
  have:=tl_length s.data.toList;rw [←HD.out] at this
  simpa using this
 have hl2:0<d.size:=by
  have:=p2.out;rw [←HD.out] at this;have h:0<d.data.toList.length:=List.length_pos_iff.2 this
  simpa using h
 go_step3
 go_wp2;go_loop [5,6,18,25] (fun i _ _ _=>∃ k:Nat,k≤d.size∧i=.int .i64 k) (fun i _ _ _=>d.size - (intOf i).toNat)
 case atStart=>exact⟨0,Nat.zero_le _,rfl⟩
 case round =>
  obtain⟨k,hk,rfl⟩:=hrel;by_cases hlt:k<d.size
  ·have g:=dgt_at HD.out p1.out hlt;have g3:(48:Int)≤(d[k].toNat:Int):=(by omega);have g4:(d[k].toNat:Int)≤57:=(by omega);clear g;by_cases c0:d[k].toNat=48
   ·by_cases k0:k=0
    ·subst k0;have hz:(!s.toList == [48])=false:=str_no (p3.out (by rw [head_at HD.out hlt,show d[0]=48 from by rw [←UInt8.toNat_inj,c0];rfl]));have c1:((d[0].toNat:Int) == 48)=true:=(by simp;omega);clear c0;go_wp2;go_round
     case rel=>exact⟨1,by omega,rfl⟩
     case measure=>simp [intOf];omega
    ·have k1:((k:Int) == 0)=false:=(by simpa using k0);have c1:((d[k].toNat:Int) == 48)=true:=(by simp;omega);clear c0;go_wp2;go_round
     case rel=>exact⟨k+1,by omega,by go_num⟩
     case measure=>simp [intOf];omega
   ·have c1:((d[k].toNat:Int) == 48)=false:=(by simp;omega);clear c0;go_wp2;go_round
    case rel=>exact⟨k+1,by omega,by go_num⟩
    case measure=>simp [intOf];omega
  ·have k1:((k:Int) == 0)=false:=(by simp;omega);by_cases g:okI (valS s.data.toList)=true
   ·go_wp2_with (go_at_call 181;refine (Tryz.strconv_Atoi_ok _ (by omega) (valS s.data.toList) (by rw [atoi_eq HDEC.out,if_pos g]) _).mono ?_;rintro e w' ⟨rfl,hw⟩)
    go_ret2;exact⟨ret2 (by rw [parseS,HDEC.out,if_pos rfl,lim_ok g]),by rcases hw with rfl | ⟨t,rfl⟩;exact Below.refl _ _;exact Joins.below_bytesWorld _ _ _ _ (Nat.le_refl _)⟩
   ·have g':okI (valS s.data.toList)=false:=(by simpa using g);clear g;go_wp2_with (go_at_call 181;refine (Tryz.strconv_Atoi_range_var _ (by omega) (by rw [atoi_eq HDEC.out,g'];rfl) tp p _ HV.out).mono ?_;rintro e w' ⟨N,rfl,-,-,hw⟩)
    go_ret2;exact⟨ret2 (by rw [parseS,HDEC.out,if_pos rfl,lim_no g']),hw⟩
theorem parseCode_no (s:ByteArray) (w:World) (hs:s.size≤140737488351232) (hdec:isDec s.data.toList=false) :
  Calls Tryz.prog 166 #[.string s] w (parsed s.data.toList w):=by
 have fin:∀ W:World,W=w→parsed s.data.toList w (.returned (.tuple #[.int .i64 0,.int .i64 5])) W:=by
  rintro W rfl;exact⟨by rw [parseS,hdec];rfl,Below.refl _ _⟩
 have FIN:=Lh fin;have HDEC:=Lh hdec;clear fin hdec
 go_enter Tryz.func166,Tryz.ntmps166
 go_wp2
 go_step3
 go_wp2_with (go_at_call 180;refine (trim_any _ _).mono ?_;rintro e w' ⟨d,rfl,hd,rfl⟩)
 have HD:=Lh hd;clear hd;have hl1:d.size≤s.size:=by
  have:=tl_length s.data.toList;rw [←HD.out] at this
  simpa using this
 go_step3
 go_wp2;go_loop [5,6,18,25] (fun i _ _ _=>∃ k:Nat,k≤d.size∧i=.int .i64 k∧(d.data.toList.take k).all dgt=true∧(1≤k→¬ (d.data.toList.head? = some 48∧s.data.toList≠[48]))) (fun i _ _ _=>d.size - (intOf i).toNat)
 case atStart=>exact⟨0,Nat.zero_le _,rfl,by simp,by omega⟩
 case round =>
  obtain⟨k,hk,rfl,ha,hb⟩:=hrel;have HA:=Lh ha;have HB:=Lh hb;clear ha hb;by_cases hlt:k<d.size
  ·by_cases g:dgt d[k]=true
   ·have g2:=dgt_iff.1 g;have g3:(48:Int)≤(d[k].toNat:Int):=(by omega);have g4:(d[k].toNat:Int)≤57:=(by omega);have G:=Lh g;clear g g2;have HA1:Hid ((d.data.toList.take (k+1)).all dgt=true):=Lh (by rw [take_snoc d k hlt,List.all_append,HA.out];simp [G.out]);by_cases c0:d[k].toNat=48
    ·by_cases k0:k=0
     ·subst k0;have c1:((d[0].toNat:Int) == 48)=true:=(by simp;omega);have C0:=Lh c0;clear c0;by_cases hs48:s.data.toList=[48]
      ·have hz:(!s.toList == [48])=false:=str_no hs48;have HS:=Lh hs48;clear hs48;go_wp2;go_round
       case rel=>exact⟨1,by omega,rfl,HA1.out,fun _ x=>x.2 HS.out⟩
       case measure=>simp [intOf];omega
      ·have hz:(!s.toList == [48])=true:=str_yes hs48;clear hs48;go_wp2;go_ret2;exact FIN.out _ rfl
     ·have k1:((k:Int) == 0)=false:=(by simpa using k0);have c1:((d[k].toNat:Int) == 48)=true:=(by simp;omega);clear c0;go_wp2;go_round
      case rel=>exact⟨k+1,by omega,by go_num,HA1.out,fun _=>HB.out (by omega)⟩
      case measure=>simp [intOf];omega
    ·have c1:((d[k].toNat:Int) == 48)=false:=(by simp;omega);have C0:=Lh c0;clear c0;go_wp2;go_round
     case rel=>exact⟨k+1,by omega,by go_num,HA1.out,fun _ x=>(by
      by_cases k0:k=0
      ·subst k0;have e:=x.1;rw [HD.out,head_at HD.out hlt] at e;exact C0.out (by rw [Option.some.inj e];rfl)
      ·exact HB.out (by omega) x)⟩
     case measure=>simp [intOf];omega
   ·have g2:(d[k].toNat:Int)<48∨57<(d[k].toNat:Int):=by
     rw [dgt_iff] at g;omega
    clear g;by_cases k0:k=0
    ·subst k0;rcases g2 with g2 | g2
     all_goals
      go_wp2;go_ret2;exact FIN.out _ rfl
    ·have k1:((k:Int) == 0)=false:=(by simpa using k0);rcases g2 with g2 | g2
     all_goals
      go_wp2;go_ret2;exact FIN.out _ rfl
  ·have k0:k=0:=by
    apply Classical.byContradiction;intro x;have e:=HA.out;rw [show k=d.size by omega,List.take_of_length_le (by simp),HD.out] at e;have b:=HB.out (by omega);rw [HD.out] at b;have hne:tl s.data.toList≠[]:=by
     rw [←HD.out];intro y;have h0:d.data.toList.length=d.size:=(by simp);rw [y] at h0;simp at h0;omega
    have c:=isDec_of e hne b;rw [HDEC.out] at c;cases c
   subst k0;go_wp2;go_ret2;exact FIN.out _ rfl
theorem parseCode_any (s : ByteArray) (w : World) (hs : s.size ≤ 140737488351232) (tp : TypeId) (p : Value) (hvar : w.var? Tryz.prog "strconv.ErrRange" = some #[.iface tp p]) :
  Calls Tryz.prog 166 #[.string s] w (parsed s.data.toList w):=by
 cases h:isDec s.data.toList
 ·exact parseCode_no s w hs h
 ·exact parseCode_yes s w hs tp p hvar h
end PackW
namespace LexW
open Go Go.RowKit NumM LexM
structure Tab (w:World):Prop where
 range : ∃ tp p, w.var? Tryz.prog "strconv.ErrRange" = some #[.iface tp p]
theorem gRange : Tryz.prog.globalNamed "strconv.ErrRange" = some 7 := by kernel_rfl
theorem var_later {n:String} {g:Nat} {cs:Array Value} {w w':World} (hg:Tryz.prog.globalNamed n=some g) (h:w.var? Tryz.prog n=some cs) (hb:Below w.heap.size w w'):w'.var? Tryz.prog n=some cs:=by
 by_cases hlt:g<w.heap.size
 ·exact var?_below hb hg hlt h
 ·unfold World.var? at h;simp only [hg,Option.bind_some] at h;rw [Array.getElem?_eq_none (by omega)] at h;cases h
theorem Tab.later {w w':World} (h:Tab w) (hb:Below w.heap.size w w'):Tab w' :=
 ⟨by obtain⟨tp,p,hr⟩:=h.range;exact⟨tp,p,var_later gRange hr hb⟩⟩
theorem _root_.Go.RowKit.Below.then_ {a b c:World} (h1:Below a.heap.size a b) (h2:Below b.heap.size b c):Below a.heap.size a c:=h1.trans (h2.mono h1.size)
abbrev bs (l:List UInt8):ByteArray:=⟨l.toArray⟩
theorem bs_data (s:ByteArray):bs s.data.toList=s:=rfl
theorem bs_inj {a b:ByteArray} (h:a.data.toList=b.data.toList):a=b:=by rw [←bs_data a,←bs_data b,h]
theorem ext_data (s:ByteArray) (a e:Nat):(s.extract a e).data.toList=(s.data.toList.drop a).take (e - a):=by
 simp [ByteArray.data_extract,Array.toList_extract]
abbrev tv (k n:Int) (x:ByteArray) (ln:Int):Value:=.agg #[.int .i64 k,.int .i64 n,.string x,.int .i64 ln]
def tvT (t:Tk):Value:=tv t.kind t.n (bs t.text) t.line
theorem alloc_cells (w:World) (xs:Array Value) (t:TypeId) (i:Nat) (v:Value) (h:xs[i]? = some v):(w.alloc (.cells xs t)).cell? ⟨w.heap.size,i,none⟩=some v∧(w.alloc (.cells xs t)).frozen? ⟨w.heap.size,i,none⟩=false:=by
 have hb:(w.alloc (.cells xs t)).heap[w.heap.size]? = some (.cells xs t):=heap_alloc_new _ _;constructor
 ·simp only [World.cell?,hb];simpa using h
 ·simp only [World.frozen?,hb];simp
theorem cell_set {w:World} {g o:Nat} {x y:Value} (h:w.cell? ⟨g,o,none⟩=some y):(w.setCell ⟨g,o,none⟩ x).cell? ⟨g,o,none⟩=some x:=by
 simp [World.cell?_setCell_same,h]
theorem setCell_size (w:World) (a:Addr) (v:Value):(w.setCell a v).heap.size=w.heap.size:=by simp [World.setCell]
structure Four (w:World) (g:Nat) (x0 x1 x2 x3:Value):Prop where
 lt:g<w.heap.size
 c0:w.cell? ⟨g,0,none⟩=some x0
 c1:w.cell? ⟨g,1,none⟩=some x1
 c2:w.cell? ⟨g,2,none⟩=some x2
 c3:w.cell? ⟨g,3,none⟩=some x3
 f0:w.frozen? ⟨g,0,none⟩=false
 f1:w.frozen? ⟨g,1,none⟩=false
 f2:w.frozen? ⟨g,2,none⟩=false
 f3:w.frozen? ⟨g,3,none⟩=false
section
variable {w W0:World} {g:Nat} {x0 x1 x2 x3:Value}
theorem Four.new (w:World) (x0 x1 x2 x3:Value) (t:TypeId):Four (w.alloc (.cells #[x0,x1,x2,x3] t)) w.heap.size x0 x1 x2 x3 :=
 ⟨by simp,(alloc_cells w #[x0,x1,x2,x3] t 0 x0 rfl).1,(alloc_cells w #[x0,x1,x2,x3] t 1 x1 rfl).1,(alloc_cells w #[x0,x1,x2,x3] t 2 x2 rfl).1,(alloc_cells w #[x0,x1,x2,x3] t 3 x3 rfl).1,(alloc_cells w #[x0,x1,x2,x3] t 0 x0 rfl).2,(alloc_cells w #[x0,x1,x2,x3] t 1 x1 rfl).2,(alloc_cells w #[x0,x1,x2,x3] t 2 x2 rfl).2,(alloc_cells w #[x0,x1,x2,x3] t 3 x3 rfl).2⟩
theorem Four.at_ (hg:w.heap.size=g) (x0 x1 x2 x3:Value) (t:TypeId):Four (w.alloc (.cells #[x0,x1,x2,x3] t)) g x0 x1 x2 x3:=by subst hg;exact Four.new w x0 x1 x2 x3 t
theorem Four.stay (h:Four W0 g x0 x1 x2 x3) (hb:Below W0.heap.size W0 w):Four w g x0 x1 x2 x3 :=
 ⟨Nat.lt_of_lt_of_le h.lt hb.size,(hb.cell (p:=⟨g,0,none⟩) h.lt).trans h.c0,(hb.cell (p:=⟨g,1,none⟩) h.lt).trans h.c1,(hb.cell (p:=⟨g,2,none⟩) h.lt).trans h.c2,(hb.cell (p:=⟨g,3,none⟩) h.lt).trans h.c3,
  (hb.frozen (p:=⟨g,0,none⟩) h.lt).trans h.f0,(hb.frozen (p:=⟨g,1,none⟩) h.lt).trans h.f1,(hb.frozen (p:=⟨g,2,none⟩) h.lt).trans h.f2,(hb.frozen (p:=⟨g,3,none⟩) h.lt).trans h.f3⟩
theorem Four.alloc (h:Four w g x0 x1 x2 x3) (o:Obj):Four (w.alloc o) g x0 x1 x2 x3:=h.stay ((Below.refl _ _).alloc (Nat.le_refl _) _)
theorem Four.drew (h:Four w g x0 x1 x2 x3):Four w.drew g x0 x1 x2 x3:=h.stay (Below.refl _ _).drew
theorem Four.far {b o:Nat} {v:Value} (h:Four w g x0 x1 x2 x3) (hn:g≠b):Four (w.setCell ⟨b,o,none⟩ v) g x0 x1 x2 x3:=by
 have c:∀ i,(w.setCell ⟨b,o,none⟩ v).cell? ⟨g,i,none⟩=w.cell? ⟨g,i,none⟩:=(fun i=>World.cell?_setCell_other _ _ _ _ (fun e=>hn (congrArg Addr.block e).symm));exact⟨by rw [setCell_size];exact h.lt,by rw [c];exact h.c0,by rw [c];exact h.c1,by rw [c];exact h.c2,by rw [c];exact h.c3,by rw [World.frozen?_setCell];exact h.f0,by rw [World.frozen?_setCell];exact h.f1,by rw [World.frozen?_setCell];exact h.f2,by rw [World.frozen?_setCell];exact h.f3⟩
theorem other (w:World) {g i j:Nat} (v:Value) (hij:i≠j):(w.setCell ⟨g,i,none⟩ v).cell? ⟨g,j,none⟩=w.cell? ⟨g,j,none⟩:=World.cell?_setCell_other _ _ _ _ (fun e=>hij (congrArg Addr.off e))
theorem Four.set3 (h:Four w g x0 x1 x2 x3) (v:Value):Four (w.setCell ⟨g,3,none⟩ v) g x0 x1 x2 v :=
 ⟨by rw [setCell_size];exact h.lt,by rw [other _ _ (by decide)];exact h.c0,by rw [other _ _ (by decide)];exact h.c1,by rw [other _ _ (by decide)];exact h.c2,cell_set h.c3,by rw [World.frozen?_setCell];exact h.f0,by rw [World.frozen?_setCell];exact h.f1,by rw [World.frozen?_setCell];exact h.f2,by rw [World.frozen?_setCell];exact h.f3⟩
theorem Four.put (h:Four w g x0 x1 x2 x3) (y0 y1 y2 y3:Value):Four ((((w.setCell ⟨g,0,none⟩ y0).setCell ⟨g,1,none⟩ y1).setCell ⟨g,2,none⟩ y2).setCell ⟨g,3,none⟩ y3) g y0 y1 y2 y3:=by
 have s0:Four (w.setCell ⟨g,0,none⟩ y0) g y0 x1 x2 x3:=⟨by rw [setCell_size];exact h.lt,cell_set h.c0,by rw [other _ _ (by decide)];exact h.c1,by rw [other _ _ (by decide)];exact h.c2,by rw [other _ _ (by decide)];exact h.c3,by rw [World.frozen?_setCell];exact h.f0,by rw [World.frozen?_setCell];exact h.f1,by rw [World.frozen?_setCell];exact h.f2,by rw [World.frozen?_setCell];exact h.f3⟩;have s1:Four ((w.setCell ⟨g,0,none⟩ y0).setCell ⟨g,1,none⟩ y1) g y0 y1 x2 x3:=⟨by rw [setCell_size];exact s0.lt,by rw [other _ _ (by decide)];exact s0.c0,cell_set s0.c1,by rw [other _ _ (by decide)];exact s0.c2,by rw [other _ _ (by decide)];exact s0.c3,by rw [World.frozen?_setCell];exact s0.f0,by rw [World.frozen?_setCell];exact s0.f1,by rw [World.frozen?_setCell];exact s0.f2,by rw [World.frozen?_setCell];exact s0.f3⟩;have s2:Four (((w.setCell ⟨g,0,none⟩ y0).setCell ⟨g,1,none⟩ y1).setCell ⟨g,2,none⟩ y2) g y0 y1 y2 x3:=⟨by rw [setCell_size];exact s1.lt,by rw [other _ _ (by decide)];exact s1.c0,by rw [other _ _ (by decide)];exact s1.c1,cell_set s1.c2,by rw [other _ _ (by decide)];exact s1.c3,by rw [World.frozen?_setCell];exact s1.f0,by rw [World.frozen?_setCell];exact s1.f1,by rw [World.frozen?_setCell];exact s1.f2,by rw [World.frozen?_setCell];exact s1.f3⟩;exact s2.set3 y3
theorem below_put (h:Below W0.heap.size W0 w) (hg:W0.heap.size≤g) (y0 y1 y2 y3:Value):Below W0.heap.size W0 ((((w.setCell ⟨g,0,none⟩ y0).setCell ⟨g,1,none⟩ y1).setCell ⟨g,2,none⟩ y2).setCell ⟨g,3,none⟩ y3) :=
 (((h.setCell hg _).setCell hg _).setCell hg _).setCell hg _
end
def tTok (w:World) (r:Tk × Int) (e:Ending) (w':World):Prop:=e=.returned (.tuple #[tv r.1.kind r.1.n (bs r.1.text) 0,.int .i64 r.2])∧Below w.heap.size w w'
theorem tTok_mk {w w':World} {k n er:Int} {x:ByteArray} {r:Tk × Int} (h:r=(⟨k,n,x.data.toList,0⟩,er)) (hb:Below w.heap.size w w'):tTok w r (.returned (.tuple #[tv k n x 0,.int .i64 er])) w':=by
 subst h;exact⟨rfl,hb⟩
theorem word_any (s:ByteArray) (w:World) (hs:s.size≤140737488351232):Calls Tryz.prog 147 #[.string s] w (tTok w (nameT s.data.toList)):=by
 have hl:=len_data s;by_cases h:16<s.size
 ·have E:Hid (nameT s.data.toList=(⟨0,0,(⟨#[]⟩:ByteArray).data.toList,0⟩,2)):=Lh (by rw [nameT,if_pos (by omega)];rfl);clear hl
  go_enter Tryz.func147,Tryz.ntmps147
  go_wp2;refine bodyPost_ret (v:=.tuple #[tv 0 0 ⟨#[]⟩ 0,.int .i64 2]) (by simp [results,Tryz.results147,go_sem]) rfl ?_;exact tTok_mk E.out ((Below.refl _ _).alloc (Nat.le_refl _) _)
 ·have KW:∀ W,Calls Tryz.prog 165 #[.string s] W fun e w'=>e=.returned (.bool (isKw s.data.toList))∧W=w':=fun W=>isKeyword_any s W
  cases hk:isKw s.data.toList
  ·have E:Hid (nameT s.data.toList=(⟨1,0,s.data.toList,0⟩,0)):=Lh (by rw [nameT,if_neg (by omega),hk];rfl);rw [hk] at KW;have KW:=Lh KW;clear hl hk
   go_enter Tryz.func147,Tryz.ntmps147
   go_wp2_with (go_at_call 165;((with_reducible refine (KW.out _).mono ?_);rintro e w' ⟨rfl,rfl⟩))
   refine bodyPost_ret (v:=.tuple #[tv 1 0 s 0,.int .i64 0]) (by simp [results,Tryz.results147,go_sem]) rfl ?_;exact tTok_mk E.out ((Below.refl _ _).alloc (Nat.le_refl _) _)
  ·have E:Hid (nameT s.data.toList=(⟨2,0,s.data.toList,0⟩,0)):=Lh (by rw [nameT,if_neg (by omega),hk];rfl);rw [hk] at KW;have KW:=Lh KW;clear hl hk
   go_enter Tryz.func147,Tryz.ntmps147
   go_wp2_with (go_at_call 165;((with_reducible refine (KW.out _).mono ?_);rintro e w' ⟨rfl,rfl⟩))
   refine bodyPost_ret (v:=.tuple #[tv 2 0 s 0,.int .i64 0]) (by simp [results,Tryz.results147,go_sem]) rfl ?_;exact tTok_mk E.out ((Below.refl _ _).alloc (Nat.le_refl _) _)
end LexW
end Go.Proofs.YtihnejaopejbgaaGreatDoor
