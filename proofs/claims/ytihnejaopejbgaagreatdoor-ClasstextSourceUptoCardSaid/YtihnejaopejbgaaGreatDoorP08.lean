/-
  Laws that the card uses; no conditions beside those that each states (ExLexFirst ExLexValid).
-/
import Derived.Laws.StructEq
import Derived.Test.YtihnejaopejbgaaGreatDoorP06
set_option maxRecDepth 100000
set_option maxHeartbeats 16000000
namespace Go.Proofs.YtihnejaopejbgaaGreatDoor
namespace LexW
open Go Go.RowKit NumM LexM
theorem valS_nn {l:List UInt8} {c:UInt8} {r:List UInt8} (h:l=c::r) (hc:dgt c=true):0≤valS l:=by
 have hm:minus l=false:=by
  subst h;have:=dgt_iff.1 hc;rw [minus,beq_eq_false_iff_ne,List.head?_cons];intro e;rw [Option.some.inj e] at this;exact absurd this (by decide)
 rw [valS,hm];simp
theorem parse_bd {l:List UInt8} {c:UInt8} {r:List UInt8} (h:l=c::r) (hc:dgt c=true):0≤(parseS l).1∧(parseS l).1≤9223372036854775807:=by
 have:=valS_nn h hc;unfold parseS lim;split
 ·split
  ·rename_i g;have:=okI_iff.1 g;exact⟨by assumption,this.2⟩
  ·simp
 ·simp
theorem number_any (s:ByteArray) (w:World) (hs:s.size≤140737488351232) (ht:Tab w) (h0:0≤(parseS s.data.toList).1) (h1:(parseS s.data.toList).1≤9223372036854775807) :
  Calls Tryz.prog 149 #[.string s] w (tTok w (numT s.data.toList)):=by
 obtain⟨tp,p,hv⟩:=ht.range
 have PC:Hid (∀ W,Below w.heap.size w W→Calls Tryz.prog 166 #[.string s] W fun e w'=>e=.returned (.tuple #[.int .i64 (parseS s.data.toList).1,.int .i64 (parseS s.data.toList).2])∧Below W.heap.size W w') :=
  Lh fun W hb=>PackW.parseCode_any s W hs tp p (var_later gRange hv hb)
 clear hv ht;rcases hp:parseS s.data.toList with ⟨n,er⟩
 rw [hp] at PC h0 h1;simp only at PC h0 h1;have hb0:Hid (Below w.heap.size w (w.alloc (.cells #[.int .i64 0,.int .i64 0,.string ⟨#[]⟩,.int .i64 0] 116))):=Lh ((Below.refl _ _).alloc (Nat.le_refl _) _);by_cases he:er=0
 ·subst he;by_cases hn:2147483647<n
  ·have E:Hid (numT s.data.toList=(⟨0,0,(⟨#[]⟩:ByteArray).data.toList,0⟩,3)):=Lh (by rw [numT,hp,if_pos rfl,if_pos hn];rfl);clear hp
   go_enter Tryz.func149,Tryz.ntmps149
   go_wp2_with (go_at_call 166;((with_reducible refine (PC.out _ hb0.out).mono ?_);rintro e w1 ⟨rfl,hb⟩;have F:=Lh ((Four.new w _ _ _ _ _).stay hb);have HB:=Lh (Below.then_ hb0.out hb);clear hb;have f0:=F.out.f0;have f1:=F.out.f1;have f2:=F.out.f2;have f3:=F.out.f3;have c0:=F.out.c0;have c1:=F.out.c1;have c2:=F.out.c2;have c3:=F.out.c3))
   have FF:=F.out.put (.int .i64 0) (.int .i64 0) (.string ⟨#[]⟩) (.int .i64 0);have d0:=FF.c0;have d1:=FF.c1;have d2:=FF.c2;have d3:=FF.c3;refine bodyPost_ret (v:=.tuple #[tv 0 0 ⟨#[]⟩ 0,.int .i64 3]) (by simp [results,Tryz.results149,go_sem,d0,d1,d2,d3]) rfl ?_;exact tTok_mk E.out (below_put HB.out (Nat.le_refl _) _ _ _ _)
  ·have E:Hid (numT s.data.toList=(⟨3,n,s.data.toList,0⟩,0)):=Lh (by rw [numT,hp,if_pos rfl,if_neg hn]);clear hp
   go_enter Tryz.func149,Tryz.ntmps149
   go_wp2_with (go_at_call 166;((with_reducible refine (PC.out _ hb0.out).mono ?_);rintro e w1 ⟨rfl,hb⟩;have F:=Lh ((Four.new w _ _ _ _ _).stay hb);have HB:=Lh (Below.then_ hb0.out hb);clear hb;have f0:=F.out.f0;have f1:=F.out.f1;have f2:=F.out.f2;have f3:=F.out.f3;have c0:=F.out.c0;have c1:=F.out.c1;have c2:=F.out.c2;have c3:=F.out.c3))
   have FF:=F.out.put (.int .i64 3) (.int .i64 n) (.string s) (.int .i64 0);have d0:=FF.c0;have d1:=FF.c1;have d2:=FF.c2;have d3:=FF.c3;refine bodyPost_ret (v:=.tuple #[tv 3 n s 0,.int .i64 0]) (by simp [results,Tryz.results149,go_sem,d0,d1,d2,d3]) rfl ?_;exact tTok_mk E.out (below_put HB.out (Nat.le_refl _) _ _ _ _)
 ·have he':(er == 0)=false:=(by simpa using he);have E:Hid (numT s.data.toList=(⟨0,0,(⟨#[]⟩:ByteArray).data.toList,0⟩,er)):=Lh (by rw [numT,hp,if_neg he];rfl);clear hp he
  go_enter Tryz.func149,Tryz.ntmps149
  go_wp2_with (go_at_call 166;((with_reducible refine (PC.out _ hb0.out).mono ?_);rintro e w1 ⟨rfl,hb⟩;have F:=Lh ((Four.new w _ _ _ _ _).stay hb);have HB:=Lh (Below.then_ hb0.out hb);clear hb;have f0:=F.out.f0;have f1:=F.out.f1;have f2:=F.out.f2;have f3:=F.out.f3;have c0:=F.out.c0;have c1:=F.out.c1;have c2:=F.out.c2;have c3:=F.out.c3))
  have FF:=F.out.put (.int .i64 0) (.int .i64 0) (.string ⟨#[]⟩) (.int .i64 0);have d0:=FF.c0;have d1:=FF.c1;have d2:=FF.c2;have d3:=FF.c3;refine bodyPost_ret (v:=.tuple #[tv 0 0 ⟨#[]⟩ 0,.int .i64 er]) (by simp [results,Tryz.results149,go_sem,d0,d1,d2,d3]) rfl ?_;exact tTok_mk E.out (below_put HB.out (Nat.le_refl _) _ _ _ _)
theorem take_size (s:ByteArray) {k:Nat}:(s.extract 0 k).data.toList=s.data.toList.take k:=by
 rw [ext_data];simp
theorem mark_hit {l:List UInt8} {k:Nat} (h0:0<k) (hk:k≤min 2 l.length) (hm:isMk (l.take k)=true) (hn:∀ j,k<j→j≤min 2 l.length→isMk (l.take j)=false) :
  markT l=(⟨4,0,l.take k,0⟩,0):=by
 unfold markT;by_cases h2:k=2
 ·subst h2;rw [if_pos hm]
 ·obtain rfl:k=1:=(by omega);by_cases hl:2≤l.length
  ·rw [hn 2 (by omega) (by omega),if_neg (by decide),if_pos hm]
  ·have e:l.take 2=l.take 1:=(by rw [List.take_of_length_le (by omega),List.take_of_length_le (by omega)]);rw [e,if_pos hm]
theorem mark_miss {l:List UInt8} (hn:∀ j,0<j→j≤min 2 l.length→isMk (l.take j)=false):markT l=(zTk,5):=by
 have one:∀ j,0<j→j≤2→isMk (l.take j)=false:=by
  intro j hj h2;by_cases hl:j≤l.length
  ·exact hn j hj (by omega)
  ·by_cases h0:l.length=0
   ·obtain rfl:l=[]:=List.length_eq_zero_iff.1 h0;rw [List.take_nil];exact mk_nil
   ·have e:l.take j=l.take l.length:=(by rw [List.take_of_length_le (by omega),List.take_of_length_le (by omega)]);rw [e];exact hn _ (by omega) (by omega)
 unfold markT;rw [one 2 (by omega) (by omega),one 1 (by omega) (by omega)];rfl
theorem mark_any (s:ByteArray) (w:World) (hs:s.size≤140737488351232):Calls Tryz.prog 145 #[.string s] w (tTok w (markT s.data.toList)):=by
 have KM:Hid (∀ x:ByteArray,∀ W,Calls Tryz.prog 164 #[.string x] W fun e w'=>e=.returned (.bool (isMk x.data.toList))∧W=w'):=(Lh fun x W=>isMark_any x W);have HL:=Lh (len_data s)
 go_enter Tryz.func145,Tryz.ntmps145
 go_wp2;go_loop [4] (fun i=>∃ k:Nat,i=.int .i64 k∧k≤2∧k≤s.size∧Hid (∀ j,k<j→j≤min 2 s.data.toList.length→isMk (s.data.toList.take j)=false)) (fun i=>(intOf i).toNat)
 case atStart=>exact⟨min 2 s.size,by congr 1;omega,by omega,by omega,Lh fun j h1 h2=>by rw [HL.out] at h2;omega⟩
 case round =>
  obtain⟨k,rfl,hk2,hks,hn⟩:=hrel;by_cases h0:0<k
  ·have K:=KM.out (s.extract 0 k);rw [take_size] at K;cases e:isMk (s.data.toList.take k)
   ·rw [e] at K;have K:=Lh K;have EE:=Lh e;clear e;go_wp2_with (go_at_call 164;((with_reducible refine (K.out _).mono ?_);rintro e w' ⟨rfl,rfl⟩))
    go_round
    case rel=>exact⟨k - 1,by congr 1;omega,by omega,by omega,Lh fun j h1 h2=>by
     by_cases hj:j=k
     ·rw [hj];exact EE.out
     ·exact hn.out j (by omega) h2⟩
    case measure=>simp [intOf];omega
   ·rw [e] at K;have K:=Lh K;have E:Hid (markT s.data.toList=(⟨4,0,(s.extract 0 k).data.toList,0⟩,0)):=Lh (by rw [take_size];exact mark_hit h0 (by rw [HL.out];omega) e hn.out);clear e;go_wp2_with (go_at_call 164;((with_reducible refine (K.out _).mono ?_);rintro e w' ⟨rfl,rfl⟩))
    refine bodyPost_ret (v:=.tuple #[tv 4 0 (s.extract 0 k) 0,.int .i64 0]) (by simp [results,Tryz.results145,go_sem]) rfl ?_;exact tTok_mk E.out ((Below.refl _ _).alloc (Nat.le_refl _) _)
  ·have E:Hid (markT s.data.toList=(⟨0,0,(⟨#[]⟩:ByteArray).data.toList,0⟩,5)):=Lh (mark_miss fun j h1 h2=>hn.out j (by omega) h2);go_wp2;refine bodyPost_ret (v:=.tuple #[tv 0 0 ⟨#[]⟩ 0,.int .i64 5]) (by simp [results,Tryz.results145,go_sem]) rfl ?_;exact tTok_mk E.out ((Below.refl _ _).alloc (Nat.le_refl _) _)
theorem word_take (s:ByteArray):(s.extract 0 (wordS s.data.toList).length).data.toList=wordS s.data.toList:=by
 rw [take_size];exact (word_pre _).symm
theorem dg_byte (c:UInt8):dgI (c.toNat:Int)=dgt c:=by
 rw [Bool.eq_iff_iff];simp [dgI,dgt];omega
theorem sm_byte (c:UInt8):smI (c.toNat:Int)=sml c:=by
 rw [Bool.eq_iff_iff];simp [smI,sml];omega
theorem head_of (x:ByteArray) {c:UInt8} {r:List UInt8} (h:x.data.toList=c::r):∃ h:0<x.size,x[0]=c:=by
 have hl:x.size=(c::r).length:=(by rw [←h];simp);have h0:0<x.size:=(by rw [hl];simp);refine⟨h0,?_⟩;have e:x.data.toList[0]'(by simpa using h0)=x[0]:=rfl;rw [←e];simp [h]
theorem first_part (f:FuncId) (y:ByteArray) (r:Tk × Int) (w:World) (hC:∀ W,Below w.heap.size w W→Calls Tryz.prog f #[.string y] W (tTok W r)) :
  ∃ (k n er:Int) (x:ByteArray),r.1.kind=k∧r.1.n=n∧r.1.text=x.data.toList∧r.2=er∧Hid (∀ W,Below w.heap.size w W→Calls Tryz.prog f #[.string y] W fun e w'=>e=.returned (.tuple #[tv k n x 0,.int .i64 er])∧Below W.heap.size W w') ∧
   Hid (∀ (w':World),Below w.heap.size w w'→tTok w r (.returned (.tuple #[tv k n x 0,.int .i64 er])) w') :=
 ⟨_,_,_,bs r.1.text,rfl,rfl,rfl,rfl,Lh hC,Lh fun _ hb=>⟨rfl,hb⟩⟩
theorem first_mk (s:ByteArray) (w:World) (n:Nat) (x:ByteArray) (hn:n≤s.size) (hX:s.extract 0 n=x) (SP:Hid (∀ W,Calls Tryz.prog 143 #[.string s,.func (.func 144) #[] #[]] W fun e w'=>e=.returned (.int .i64 (n:Int))∧Below W.heap.size W w')) (hx:x.toList=[])  (k m er:Int) (y:ByteArray) (r:Tk × Int) (CC:Hid (∀ W,Below w.heap.size w W→Calls Tryz.prog 145 #[.string s] W fun e w'=>e=.returned (.tuple #[tv k m y 0,.int .i64 er])∧Below W.heap.size W w')) (END:Hid (∀ (w':World),Below w.heap.size w w'→tTok w r (.returned (.tuple #[tv k m y 0,.int .i64 er])) w')):Calls Tryz.prog 117 #[.string s] w (tTok w r):=by
 have hb0:Hid (Below w.heap.size w (w.alloc (.cells #[.int .i64 0,.int .i64 0,.string ⟨#[]⟩,.int .i64 0] 116))):=Lh ((Below.refl _ _).alloc (Nat.le_refl _) _)
 go_enter Tryz.func117,Tryz.ntmps117
 go_wp2_with (first | (go_at_call 143;((with_reducible refine (SP.out _).mono ?_);rintro e w1 ⟨rfl,hb⟩;have F:=Lh ((Four.new w _ _ _ _ _).stay hb);have HB:=Lh (Below.then_ hb0.out hb);clear hb)) | (go_at_call 145;((with_reducible refine (CC.out _ HB.out).mono ?_);rintro e w2 ⟨rfl,hb⟩;have G:=Lh (F.out.stay hb);have HB2:=Lh (Below.then_ HB.out hb);clear hb;have f0:=G.out.f0;have f1:=G.out.f1;have f2:=G.out.f2;have f3:=G.out.f3;have c0:=G.out.c0;have c1:=G.out.c1;have c2:=G.out.c2;have c3:=G.out.c3)))
 have FF:=G.out.put (.int .i64 k) (.int .i64 m) (.string y) (.int .i64 0);have d0:=FF.c0;have d1:=FF.c1;have d2:=FF.c2;have d3:=FF.c3;refine bodyPost_ret (v:=.tuple #[tv k m y 0,.int .i64 er]) (by simp [results,Tryz.results117,go_sem,d0,d1,d2,d3]) rfl ?_;exact END.out _ (below_put HB2.out (Nat.le_refl _) _ _ _ _)
theorem first_wd (s:ByteArray) (w:World) (n:Nat) (x:ByteArray) (hn:n≤s.size) (hX:s.extract 0 n=x) (SP:Hid (∀ W,Calls Tryz.prog 143 #[.string s,.func (.func 144) #[] #[]] W fun e w'=>e=.returned (.int .i64 (n:Int))∧Below W.heap.size W w')) (hx0:x.toList.isEmpty=false) (h0:0<x.size) (hs:smI (wrap32 (x[0].toNat:Int))=true)  (k m er:Int) (y:ByteArray) (r:Tk × Int) (CC:Hid (∀ W,Below w.heap.size w W→Calls Tryz.prog 147 #[.string x] W fun e w'=>e=.returned (.tuple #[tv k m y 0,.int .i64 er])∧Below W.heap.size W w')) (END:Hid (∀ (w':World),Below w.heap.size w w'→tTok w r (.returned (.tuple #[tv k m y 0,.int .i64 er])) w')):Calls Tryz.prog 117 #[.string s] w (tTok w r):=by
 have hb0:Hid (Below w.heap.size w (w.alloc (.cells #[.int .i64 0,.int .i64 0,.string ⟨#[]⟩,.int .i64 0] 116))):=Lh ((Below.refl _ _).alloc (Nat.le_refl _) _)
 go_enter Tryz.func117,Tryz.ntmps117
 go_wp2_with (first | (go_at_call 143;((with_reducible refine (SP.out _).mono ?_);rintro e w1 ⟨rfl,hb⟩;have F:=Lh ((Four.new w _ _ _ _ _).stay hb);have HB:=Lh (Below.then_ hb0.out hb);clear hb)) | (go_at_call 147;((with_reducible refine (CC.out _ HB.out).mono ?_);rintro e w2 ⟨rfl,hb⟩;have G:=Lh (F.out.stay hb);have HB2:=Lh (Below.then_ HB.out hb);clear hb;have f0:=G.out.f0;have f1:=G.out.f1;have f2:=G.out.f2;have f3:=G.out.f3;have c0:=G.out.c0;have c1:=G.out.c1;have c2:=G.out.c2;have c3:=G.out.c3)) | (go_at_call 146;((with_reducible refine (isSmall_any _ _).mono ?_);rintro e w' ⟨rfl,rfl⟩)))
 have FF:=G.out.put (.int .i64 k) (.int .i64 m) (.string y) (.int .i64 0);have d0:=FF.c0;have d1:=FF.c1;have d2:=FF.c2;have d3:=FF.c3;refine bodyPost_ret (v:=.tuple #[tv k m y 0,.int .i64 er]) (by simp [results,Tryz.results117,go_sem,d0,d1,d2,d3]) rfl ?_;exact END.out _ (below_put HB2.out (Nat.le_refl _) _ _ _ _)
theorem first_nb (s:ByteArray) (w:World) (n:Nat) (x:ByteArray) (hn:n≤s.size) (hX:s.extract 0 n=x) (SP:Hid (∀ W,Calls Tryz.prog 143 #[.string s,.func (.func 144) #[] #[]] W fun e w'=>e=.returned (.int .i64 (n:Int))∧Below W.heap.size W w')) (hx0:x.toList.isEmpty=false) (h0:0<x.size) (hs:smI (wrap32 (x[0].toNat:Int))=false) (hd:dgI (wrap32 (x[0].toNat:Int))=true)  (k m er:Int) (y:ByteArray) (r:Tk × Int) (CC:Hid (∀ W,Below w.heap.size w W→Calls Tryz.prog 149 #[.string x] W fun e w'=>e=.returned (.tuple #[tv k m y 0,.int .i64 er])∧Below W.heap.size W w')) (END:Hid (∀ (w':World),Below w.heap.size w w'→tTok w r (.returned (.tuple #[tv k m y 0,.int .i64 er])) w')):Calls Tryz.prog 117 #[.string s] w (tTok w r):=by
 have hb0:Hid (Below w.heap.size w (w.alloc (.cells #[.int .i64 0,.int .i64 0,.string ⟨#[]⟩,.int .i64 0] 116))):=Lh ((Below.refl _ _).alloc (Nat.le_refl _) _)
 go_enter Tryz.func117,Tryz.ntmps117
 go_wp2_with (first | (go_at_call 143;((with_reducible refine (SP.out _).mono ?_);rintro e w1 ⟨rfl,hb⟩;have F:=Lh ((Four.new w _ _ _ _ _).stay hb);have HB:=Lh (Below.then_ hb0.out hb);clear hb)) | (go_at_call 149;((with_reducible refine (CC.out _ HB.out).mono ?_);rintro e w2 ⟨rfl,hb⟩;have G:=Lh (F.out.stay hb);have HB2:=Lh (Below.then_ HB.out hb);clear hb;have f0:=G.out.f0;have f1:=G.out.f1;have f2:=G.out.f2;have f3:=G.out.f3;have c0:=G.out.c0;have c1:=G.out.c1;have c2:=G.out.c2;have c3:=G.out.c3)) | (go_at_call 146;((with_reducible refine (isSmall_any _ _).mono ?_);rintro e w' ⟨rfl,rfl⟩)) | (go_at_call 148;((with_reducible refine (isDigit_any _ _).mono ?_);rintro e w' ⟨rfl,rfl⟩)))
 have FF:=G.out.put (.int .i64 k) (.int .i64 m) (.string y) (.int .i64 0);have d0:=FF.c0;have d1:=FF.c1;have d2:=FF.c2;have d3:=FF.c3;refine bodyPost_ret (v:=.tuple #[tv k m y 0,.int .i64 er]) (by simp [results,Tryz.results117,go_sem,d0,d1,d2,d3]) rfl ?_;exact END.out _ (below_put HB2.out (Nat.le_refl _) _ _ _ _)
theorem first_no (s:ByteArray) (w:World) (n:Nat) (x:ByteArray) (hn:n≤s.size) (hX:s.extract 0 n=x) (SP:Hid (∀ W,Calls Tryz.prog 143 #[.string s,.func (.func 144) #[] #[]] W fun e w'=>e=.returned (.int .i64 (n:Int))∧Below W.heap.size W w')) (hx0:x.toList.isEmpty=false) (h0:0<x.size) (hs:smI (wrap32 (x[0].toNat:Int))=false) (hd:dgI (wrap32 (x[0].toNat:Int))=false):Calls Tryz.prog 117 #[.string s] w (tTok w (zTk,5)):=by
 have hb0:Hid (Below w.heap.size w (w.alloc (.cells #[.int .i64 0,.int .i64 0,.string ⟨#[]⟩,.int .i64 0] 116))):=Lh ((Below.refl _ _).alloc (Nat.le_refl _) _)
 go_enter Tryz.func117,Tryz.ntmps117
 go_wp2_with (first | (go_at_call 143;((with_reducible refine (SP.out _).mono ?_);rintro e w1 ⟨rfl,hb⟩;have F:=Lh ((Four.new w _ _ _ _ _).stay hb);have HB:=Lh (Below.then_ hb0.out hb);clear hb;have f0:=F.out.f0;have f1:=F.out.f1;have f2:=F.out.f2;have f3:=F.out.f3;have c0:=F.out.c0;have c1:=F.out.c1;have c2:=F.out.c2;have c3:=F.out.c3)) | (go_at_call 146;((with_reducible refine (isSmall_any _ _).mono ?_);rintro e w' ⟨rfl,rfl⟩)) | (go_at_call 148;((with_reducible refine (isDigit_any _ _).mono ?_);rintro e w' ⟨rfl,rfl⟩)))
 have FF:=F.out.put (.int .i64 0) (.int .i64 0) (.string ⟨#[]⟩) (.int .i64 0);have d0:=FF.c0;have d1:=FF.c1;have d2:=FF.c2;have d3:=FF.c3;refine bodyPost_ret (v:=.tuple #[tv 0 0 ⟨#[]⟩ 0,.int .i64 5]) (by simp [results,Tryz.results117,go_sem,d0,d1,d2,d3]) rfl ?_;exact tTok_mk rfl (below_put HB.out (Nat.le_refl _) _ _ _ _)
theorem first_any (s:ByteArray) (w:World) (hs:s.size≤140737488351232) (ht:Tab w):Calls Tryz.prog 117 #[.string s] w (tTok w (firstS s.data.toList)):=by
 have hx:=word_take s;have hwl:(wordS s.data.toList).length≤s.size:=by
  have:=(List.takeWhile_prefix wrd (l:=s.data.toList)).length_le;rw [len_data] at this;exact this
 have SP:Hid (∀ W,Calls Tryz.prog 143 #[.string s,.func (.func 144) #[] #[]] W fun e w'=>e=.returned (.int .i64 ((wordS s.data.toList).length:Int))∧Below W.heap.size W w'):=(Lh fun W=>spanWord s W);obtain⟨n,hn⟩:∃ n,(wordS s.data.toList).length=n:=⟨_,rfl⟩;obtain⟨x,hX⟩:∃ x,s.extract 0 n=x:=⟨_,rfl⟩;rw [hn] at SP hx hwl;rw [hX] at hx;have hxs:x.size≤140737488351232:=by
  rw [←len_data x,hx,hn];omega
 have hxl:x.toList=wordS s.data.toList:=(by rw [Lib.toList_data,hx]);rcases hw:wordS s.data.toList with _ | ⟨c,r⟩
 ·rw [first_mark hw];obtain⟨k,m,er,y,_,_,_,_,CC,END⟩:=first_part 145 s (markT s.data.toList) w (fun W _=>mark_any s W hs);exact first_mk s w n x hwl hX SP (by rw [hxl,hw]) k m er y _ CC END
 ·rw [first_word hw];rw [hw] at hx hxl;obtain⟨h0,hc⟩:=head_of x hx;have e2:x.toList.isEmpty=false:=(by rw [hxl];rfl);have eS:=sm_byte x[0];have eD:=dg_byte x[0];have eW:wrap32 (x[0].toNat:Int)=(x[0].toNat:Int):=(by have:=x[0].toNat_lt;unfold wrap32;omega);rw [hc] at eS eD eW;by_cases h1:sml c=true
  ·rw [if_pos h1];obtain⟨k,m,er,y,_,_,_,_,CC,END⟩:=first_part 147 x (nameT x.data.toList) w (fun W _=>word_any x W hxs);rw [←hx];exact first_wd s w n x hwl hX SP e2 h0 (by rw [hc,eW,eS,h1]) k m er y _ CC END
  ·have h1':sml c=false:=(by simpa using h1);rw [if_neg h1];by_cases h2:dgt c=true
   ·rw [if_pos h2];have hbd:=parse_bd hx h2;obtain⟨k,m,er,y,_,_,_,_,CC,END⟩:=first_part 149 x (numT x.data.toList) w (fun W hb=>number_any x W hxs (ht.later hb) hbd.1 hbd.2);rw [←hx];exact first_nb s w n x hwl hX SP e2 h0 (by rw [hc,eW,eS,h1']) (by rw [hc,eW,eD,h2]) k m er y _ CC END
   ·have h2':dgt c=false:=(by simpa using h2);rw [if_neg h2];exact first_no s w n x hwl hX SP e2 h0 (by rw [hc,eW,eS,h1']) (by rw [hc,eW,eD,h2'])
def tkEq (k n:Int) (x:ByteArray) (l:Int) (k' n':Int) (x':ByteArray) (l':Int):Bool:=(k == k')&&((n == n')&&((x.toList == x'.toList)&&(l == l')))
theorem run_tok_eq (W:World) (k n:Int) (x:ByteArray) (l:Int) (k' n':Int) (x':ByteArray) (l':Int) :
  (binOp .eql 116 (tv k n x l) (tv k' n' x' l')).run Tryz.prog W=.ok (.bool (tkEq k n x l k' n' x' l')) W:=by
 unfold tkEq;cases h0:(k == k')<;>cases h1:(n == n')<;>cases h2:(x.toList == x'.toList)<;>cases h3:(l == l') <;>
  simp [go_sem,h0,h1,h2,h3]
theorem tkEq_iff {k n:Int} {x:ByteArray} {l:Int} {k' n':Int} {x':ByteArray} {l':Int}:tkEq k n x l k' n' x' l'=true↔k=k'∧n=n'∧x.data.toList=x'.data.toList∧l=l':=by
 simp [tkEq,Lib.toList_data]
theorem valid_ok (a b d:Int) (s y:ByteArray) (k m:Int) (w:World)
  (CC:Hid (∀ W,Below w.heap.size w W→Calls Tryz.prog 117 #[.string s] W fun e w'=>e=.returned (.tuple #[tv k m y 0,.int .i64 0])∧Below W.heap.size W w')) :
  Calls Tryz.prog 89 #[tv a b s d] w fun e w'=>e=.returned (.bool (tkEq k m y 0 a b s 0))∧Below w.heap.size w w':=by
 have hb0:Hid (Below w.heap.size w (w.alloc (.cells #[.int .i64 a,.int .i64 b,.string s,.int .i64 0] 116))):=Lh ((Below.refl _ _).alloc (Nat.le_refl _) _);have HQ:=(fun W=>run_tok_eq W k m y 0 a b s 0);obtain⟨B,hB⟩:∃ B,tkEq k m y 0 a b s 0=B:=⟨_,rfl⟩;rw [hB];rw [hB] at HQ;clear hB
 go_enter Tryz.func89,Tryz.ntmps89
 go_wp2_with (go_at_call 117;((with_reducible refine (CC.out _ hb0.out).mono ?_);rintro e w1 ⟨rfl,hb⟩;have F:=Lh ((Four.new w _ _ _ _ _).stay hb);have HB:=Lh (Below.then_ hb0.out hb);clear hb;have f0:=F.out.f0;have f1:=F.out.f1;have f2:=F.out.f2;have f3:=F.out.f3;have c0:=F.out.c0;have c1:=F.out.c1;have c2:=F.out.c2;have c3:=F.out.c3;have z1:=F.out.lt))
 go_ret;exact⟨rfl,HB.out.alloc HB.out.size _⟩
theorem valid_no (a b d:Int) (s y:ByteArray) (k m er:Int) (w:World) (he:(er == 0)=false)
  (CC:Hid (∀ W,Below w.heap.size w W→Calls Tryz.prog 117 #[.string s] W fun e w'=>e=.returned (.tuple #[tv k m y 0,.int .i64 er])∧Below W.heap.size W w')) :
  Calls Tryz.prog 89 #[tv a b s d] w fun e w'=>e=.returned (.bool false)∧Below w.heap.size w w':=by
 have hb0:Hid (Below w.heap.size w (w.alloc (.cells #[.int .i64 a,.int .i64 b,.string s,.int .i64 0] 116))):=Lh ((Below.refl _ _).alloc (Nat.le_refl _) _)
 go_enter Tryz.func89,Tryz.ntmps89
 go_wp2_with (go_at_call 117;((with_reducible refine (CC.out _ hb0.out).mono ?_);rintro e w1 ⟨rfl,hb⟩;have F:=Lh ((Four.new w _ _ _ _ _).stay hb);have HB:=Lh (Below.then_ hb0.out hb);clear hb;have f0:=F.out.f0;have f1:=F.out.f1;have f2:=F.out.f2;have f3:=F.out.f3;have c0:=F.out.c0;have c1:=F.out.c1;have c2:=F.out.c2;have c3:=F.out.c3;have z1:=F.out.lt))
 go_ret;exact⟨rfl,HB.out.alloc HB.out.size _⟩
theorem valid_any (t:Tk) (w:World) (hs:t.text.length≤140737488351232) (ht:Tab w) :
  Calls Tryz.prog 89 #[tvT t] w fun e w'=>e=.returned (.bool (validS t))∧Below w.heap.size w w':=by
 have hsz:(bs t.text).size≤140737488351232:=(by rw [←len_data];exact hs);obtain⟨k,m,er,y,hk,hm,hy,he,CC,_⟩:=first_part 117 (bs t.text) (firstS t.text) w (fun W hb=>first_any (bs t.text) W hsz (ht.later hb));by_cases h0:er=0
 ·subst h0;have e:tkEq k m y 0 t.kind t.n (bs t.text) 0=validS t:=by
   rw [Bool.eq_iff_iff,tkEq_iff,validS];simp [hk,hm,hy,he]
  rw [←e];exact valid_ok t.kind t.n t.line (bs t.text) y k m w CC
 ·have e:validS t=false:=(by unfold validS;rw [he,decide_eq_false h0];rfl);rw [e];exact valid_no t.kind t.n t.line (bs t.text) y k m er w (by simpa using h0) CC
def nameS (l:List UInt8):Bool:=validS ⟨1,0,l,0⟩
theorem isName_any (s:ByteArray) (w:World) (hs:s.size≤140737488351232) (ht:Tab w) :
  Calls Tryz.prog 49 #[.string s] w fun e w'=>e=.returned (.bool (nameS s.data.toList))∧Below w.heap.size w w':=by
 have VC:Hid (∀ W,Below w.heap.size w W→Calls Tryz.prog 89 #[tv 1 0 s 0] W fun e w'=>e=.returned (.bool (nameS s.data.toList))∧Below W.heap.size W w') :=
  Lh fun W hb=>valid_any ⟨1,0,s.data.toList,0⟩ W (by rw [len_data];exact hs) (ht.later hb)
 have hb0:=Lh (Below.refl w.heap.size w);clear ht
 go_enter Tryz.func49,Tryz.ntmps49
 go_wp2_with (go_at_call 89;((with_reducible refine (VC.out _ hb0.out).mono ?_);rintro e w1 ⟨rfl,hb⟩))
 go_ret;exact⟨rfl,hb⟩
end LexW
end Go.Proofs.YtihnejaopejbgaaGreatDoor
