/-
  Laws that the card uses; no conditions beside those that each states (EtRefA CtRefA CtRefW).
-/
import Derived.Lib.SlBytesRow
import Derived.Laws.OwnMore
import Derived.Test.YtihnejaopejbgaaGreatDoorP26
set_option maxRecDepth 100000
set_option maxHeartbeats 16000000
namespace Go.Proofs.YtihnejaopejbgaaGreatDoor
namespace EtR
open Go Go.RowKit NumM LexW LexM ExM ExW EtM EtW
def numP (n:Int):List UInt8:=Lib.itoa n++[59]
theorem rets1 {a b:ByteArray} (h:a=b):Ending.returned (.string a)=.returned (.string b):=by rw [h]
theorem dec_len (u k:Nat) (h:u<10 ^ (k+1)):(Lib.decDigits u).length≤k+1:=by
 induction k generalizing u with
 | zero=>rw [dec_small (by omega)];simp
 | succ k ih =>
  by_cases h1:u<10
  ·rw [dec_small h1];simp
  ·rw [dec_big h1,List.length_append];have:=ih (u / 10) (by rw [Nat.pow_succ] at h;omega);simp only [List.length_cons,List.length_nil];omega
theorem itoa_len {n:Int} (h0:-9223372036854775808≤n) (h1:n≤9223372036854775807):(Lib.itoa n).length≤20:=by
 unfold Lib.itoa;by_cases h:n<0
 ·rw [if_pos h,List.length_cons];have:=dec_len n.natAbs 18 (by omega);omega
 ·rw [if_neg h];have:=dec_len n.toNat 18 (by omega);omega
theorem alloc_size (w:World) (o:Obj):(w.alloc o).heap.size=w.heap.size+1:=Go.Deep.nblk_alloc _ _
def dc (u:Nat):UInt8:=UInt8.ofNat (48+u % 10)
theorem dec_last {u:Nat} (h:¬ u<10):Lib.decDigits u=Lib.decDigits (u / 10)++[dc u]:=dec_big h
theorem dec_first {u:Nat} (h:u<10):Lib.decDigits u=[dc u]:=by
 rw [dec_small h,dc,show u % 10=u by omega]
theorem conv_one (u:Nat) (x:Int) (hx:x=48+(u:Int) % 10) (wr:World) :
  Sem.run Tryz.prog (convert 59 9 (.slice (some ⟨wr.heap.size,0,none⟩) 1 1)) (wr.alloc (.cells #[.int .u8 x] 5)) =
   .ok (.string ⟨#[dc u]⟩) (wr.alloc (.cells #[.int .u8 x] 5)):=by
 subst hx;have hb:Lib.Bytes (wr.alloc (.cells #[.int .u8 (48+(u:Int) % 10)] 5)) wr.heap.size 0 ⟨#[dc u]⟩:=by
  intro i hi;obtain rfl:i=0:=(by have:i<1:=hi;omega);have e:((48+u % 10:Nat):Int)=48+(u:Int) % 10:=(by omega);have t:(dc u).toNat=48+u % 10:=dig_toNat (by omega);show _=some (Value.int .u8 ((dc u).toNat:Int));rw [t,e];simp
 exact Lib.run_convert_whole (P:=Tryz.prog) _ 59 5 9 Tryz.underlying59 Tryz.underlying5 Tryz.underlying9 wr.heap.size 0 ⟨#[dc u]⟩ hb 1
theorem conv_later (u:Nat) (x:Int) (hx:x=48+(u:Int) % 10) {wr w1:World} (h:Below (wr.alloc (.cells #[.int .u8 x] 5)).heap.size (wr.alloc (.cells #[.int .u8 x] 5)) w1) :
  Sem.run Tryz.prog (convert 59 9 (.slice (some ⟨wr.heap.size,0,none⟩) 1 1)) w1=.ok (.string ⟨#[dc u]⟩) w1:=by
 subst hx;have hb:Lib.Bytes w1 wr.heap.size 0 ⟨#[dc u]⟩:=by
  intro i hi;obtain rfl:i=0:=(by have:i<1:=hi;omega);have e:((48+u % 10:Nat):Int)=48+(u:Int) % 10:=(by omega);have t:(dc u).toNat=48+u % 10:=dig_toNat (by omega);show w1.cell? ⟨wr.heap.size,0+0,none⟩=some (Value.int .u8 ((dc u).toNat:Int));rw [t,e,h.cell (p:=⟨wr.heap.size,0+0,none⟩) (by show wr.heap.size<_;rw [alloc_size];omega)];simp
 exact Lib.run_convert_whole (P:=Tryz.prog) _ 59 5 9 Tryz.underlying59 Tryz.underlying5 Tryz.underlying9 wr.heap.size 0 ⟨#[dc u]⟩ hb 1
theorem dc_wrap (u:Nat):IntKind.u8.wrap (IntKind.i64.wrap (48+(u:Int).tmod 10))=48+(u:Int) % 10:=by
 rw [IntKind.wrap_i64,IntKind.wrap_u8,Int.tmod_eq_emod_of_nonneg (by omega)];omega
theorem dec_len20 {u:Nat} (h:u≤9223372036854775808):(bs (Lib.decDigits u)).size≤20:=by
 rw [←len_data];have:=dec_len u 18 (by omega);show (Lib.decDigits u).length≤20;omega
theorem refDigits_any (u:Nat):∀ (w:World),u≤9223372036854775808 →
  Calls Tryz.prog 108 #[.int .i64 (-(u:Int))] w fun e w'=>e=.returned (.string (bs (Lib.decDigits u)))∧Below w.heap.size w w':=by
 induction u using Nat.strongRecOn with
 | _ u ih =>
  intro w hu;by_cases h:u<10
  ·have F:=Lh (dec_first h);have hcv:=conv_one u (48+(u:Int)) (by omega)
   go_enter Tryz.func108,Tryz.ntmps108
   go_wp2_with (fail)
   go_ret;exact⟨rets1 (by rw [F.out]),(Below.refl _ _).alloc (Nat.le_refl _) _⟩
  ·have F:=Lh (dec_last h);have ih':=(fun w=>ih (u / 10) (by omega) w (by omega));rw [show (-((u / 10:Nat):Int))=IntKind.i64.wrap (-((u:Int) / 10)) by rw [IntKind.wrap_i64];omega] at ih';have IH:=Lh ih';have L:=dec_len20 (u:=u / 10) (by omega);have L2:(Lib.decDigits (u / 10)).length≤20:=(by rw [←len_data] at L;exact L);have hcv:=conv_one u _ (dc_wrap u);have DW:=Lh (dc_wrap u);have hcv4:=conv_later (wr:=w) (w1:=(w.alloc (.cells #[.int .u8 (IntKind.u8.wrap (IntKind.i64.wrap (48+(u:Int).tmod 10)))] 5)).drew) u _ (dc_wrap u) ((Below.refl _ _).drew);clear ih ih'
   go_enter Tryz.func108,Tryz.ntmps108
   go_wp2_with (fail)
   go_region_with (go_at_call 108;refine (IH.out _).mono ?_;rintro e w1 ⟨rfl,hb1⟩;first | (have hcv3:Sem.run Tryz.prog (convert 59 9 (.slice (some ⟨w.heap.size,0,none⟩) 1 1)) w1=.ok (.string ⟨#[dc u]⟩) w1:=conv_later (wr:=w) u _ DW.out (((Below.refl _ _).drew).trans hb1)) | skip)
   all_goals go_wp2
   all_goals go_ret
   all_goals
    have e:bs (Lib.decDigits (u / 10))++⟨#[dc u]⟩=bs (Lib.decDigits u):=bs_inj (by rw [F.out];simp);first
    | exact⟨rets1 e,((Below.refl _ _).drew.trans hb1).alloc hb1.size _⟩
    | exact⟨rets1 e,(((Below.refl _ _).alloc (Nat.le_refl _) _).drew).trans (hb1.mono (by show w.heap.size≤(w.alloc _).heap.size;rw [alloc_size];omega))⟩
theorem refDecimal_any (n:Int) (w:World) (h0:-9223372036854775808≤n) (h1:n≤9223372036854775807) :
  Calls Tryz.prog 72 #[.int .i64 n] w fun e w'=>e=.returned (.string (bs (Lib.itoa n)))∧Below w.heap.size w w':=by
 by_cases h:n<0
 ·have F:Hid (bs (Lib.itoa n)=⟨#[45]⟩++bs (Lib.decDigits n.natAbs)):=Lh (bs_inj (by unfold Lib.itoa;rw [if_pos h];simp));have hd:=refDigits_any n.natAbs w (by omega);rw [show -(n.natAbs:Int)=n by omega] at hd;have HD:=Lh hd;have L:=dec_len20 (u:=n.natAbs) (by omega);have L2:(Lib.decDigits n.natAbs).length≤20:=(by rw [←len_data] at L;exact L);clear hd
  go_enter Tryz.func72,Tryz.ntmps72
  go_wp2_with (first | (go_at_call 108;refine HD.out.mono ?_;rintro e w1 ⟨rfl,hb1⟩) | go_in)
  go_ret;exact⟨rets1 F.out.symm,by assumption⟩
 ·have F:Hid (bs (Lib.itoa n)=bs (Lib.decDigits n.natAbs)):=Lh (by unfold Lib.itoa;rw [if_neg h,show n.toNat=n.natAbs by omega]);have hd:=refDigits_any n.natAbs w (by omega);rw [show -(n.natAbs:Int) = -n by omega] at hd;have HD:=Lh hd;clear hd
  go_enter Tryz.func72,Tryz.ntmps72
  go_wp2_with (first | (go_at_call 108;refine HD.out.mono ?_;rintro e w1 ⟨rfl,hb1⟩) | go_in)
  go_ret;exact⟨rets1 F.out.symm,by assumption⟩
theorem itoa_size {n:Int} (h0:-9223372036854775808≤n) (h1:n≤9223372036854775807):(bs (Lib.itoa n)).size≤20:=by
 rw [←len_data];exact itoa_len h0 h1
theorem refNumber_any (n:Int) (w:World) (h0:-9223372036854775808≤n) (h1:n≤9223372036854775807) :
  Calls Tryz.prog 43 #[.int .i64 n] w fun e w'=>e=.returned (.string (bs (numP n)))∧Below w.heap.size w w':=by
 have F:Hid (bs (Lib.itoa n)++⟨#[59]⟩=bs (numP n)):=Lh (bs_inj (by unfold numP;simp));have L:=itoa_size h0 h1;have L2:=itoa_len h0 h1
 go_enter Tryz.func43,Tryz.ntmps43
 go_wp2_with (first | (go_at_call 72;refine (refDecimal_any n _ h0 h1).mono ?_;rintro e w1 ⟨rfl,hb1⟩) | go_in)
 go_ret;exact⟨rets1 F.out,by assumption⟩
end EtR
namespace CtR
open Go Go.RowKit Go.Shelf NumM LexW ExW ItW LexM ExM EtM EtW ItM CtM CtW
theorem nmT_len' (s:ByteArray):(nmT s).length=s.size:=len_data s
theorem rets {a b:ByteArray} (h:a=b):Ending.returned (.string a)=.returned (.string b):=by rw [h]
theorem ba_ext {a b:ByteArray} (h:a.data.toList=b.data.toList):a=b:=ByteArray.ext (Array.toList_inj.1 h)
theorem dec_any (n:Int) (w:World) (h:I64 n):Calls Tryz.prog 25 #[.int .i64 n] w (tS (Lib.itoa n) w):=by
 have NC:=Lh (EtR.refNumber_any n w h.1 h.2);have L:=itoa_le h;obtain⟨B,hB⟩:∃ B:ByteArray,mb (EtR.numP n)=B:=⟨_,rfl⟩;have hl:B.size=(Lib.itoa n).length+1:=(by rw [←hB];show (Lib.itoa n++[59]).length=_;simp);have F:Hid (B.extract 0 (Lib.itoa n).length=mb (Lib.itoa n)):=Lh (ba_ext (by rw [←hB];simp [EtR.numP]));have NC':Hid (Calls Tryz.prog 43 #[.int .i64 n] w fun e w'=>e=.returned (.string B)∧Below w.heap.size w w'):=Lh (by rw [←hB];exact NC.out);clear NC;have e0:tS (Lib.itoa n) w=fun e w'=>e=.returned (.string (mb (Lib.itoa n)))∧Below w.heap.size w w':=rfl
 rw [e0];generalize mb (Lib.itoa n)=T at *
 generalize (Lib.itoa n).length=m at *
 have i1:((B.size:Int) - 1).toNat=m:=(by omega);have i2:(B.size:Int) - 1≤(B.size:Int):=(by omega);have i3:(0:Int)≤(B.size:Int) - 1:=(by omega);have i4:(B.size:Int) - 1=(m:Int):=(by omega);clear hB hl h e0
 go_enter Tryz.func25,Tryz.ntmps25
 go_wp2_with (go_at_call 43;((with_reducible refine NC'.out.mono ?_);rintro e w1 ⟨rfl,hb⟩;have HB:=Lh hb;clear hb))
 go_ret;exact⟨rets F.out,HB.out⟩
theorem joinT_snoc:∀ (l:List (List UInt8)) (x:List UInt8),l≠[]→CtM.joinT (l++[x])=CtM.joinT l++44::32::x
 | [],_,h=>absurd rfl h
 | [a],x,_=>by rw [List.singleton_append,joinT_two,joinT_one,joinT_one]
 | a::b::r,x,_=>by
  rw [List.cons_append,List.cons_append,joinT_two,joinT_two,←List.cons_append,joinT_snoc (b::r) x (by simp)];simp
theorem joinT_le_take (l:List (List UInt8)):∀ j,(CtM.joinT (l.take j)).length≤(CtM.joinT l).length:=by
 induction l with
 | nil=>intro j;simp
 | cons a r ih =>
  intro j;cases j with
  | zero=>rw [List.take_zero];simp [CtM.joinT]
  | succ j =>
   rw [List.take_succ_cons];cases r with
   | nil=>simp
   | cons b s =>
    have h:=ih j;rw [joinT_two];cases j with
    | zero=>rw [List.take_zero,joinT_one];simp
    | succ j=>rw [List.take_succ_cons,joinT_two,List.length_append,List.length_append];rw [List.take_succ_cons] at h;simp only [List.length_cons];omega
theorem joined_any (l:List ByteArray) (p:Option Addr) (n cap:Nat) (w:World) (hn:l.length=n) (hc:0<n→∃ b off,p=some ⟨b,off,none⟩∧∀ (i:Nat) (s:ByteArray),l[i]? = some s→w.cell? ⟨b,off+i,none⟩=some (.string s))
  (hn47:n≤140737488351232) (hlen:(CtM.joinT (l.map nmT)).length≤140737488355328) :
  Calls Tryz.prog 26 #[.slice p n cap,.string ⟨#[44,32]⟩] w fun e w'=>e=.returned (.string (mb (CtM.joinT (l.map nmT))))∧w=w':=by
 have HC:=Lh hc;have HN:=Lh hn;have HL:=Lh hlen;clear hc hn hlen
 go_enter Tryz.func26,Tryz.ntmps26
 go_wp2;go_loop [5,6] (fun s i=>∃ (j:Nat) (S:ByteArray),j≤n∧i=.int .i64 j∧s=.string S∧S.size≤140737488355328∧Hid (S=mb (CtM.joinT ((l.take j).map nmT)))) (fun _ i=>n - (intOf i).toNat)
 case atStart=>exact⟨0,⟨#[]⟩,Nat.zero_le _,rfl,rfl,by decide,Lh rfl⟩
 case round =>
  obtain⟨j,S,hj,rfl,rfl,hz,HS⟩:=hrel;by_cases hlt:j<n
  ·obtain⟨x,hx⟩:∃ x,l[j]? = some x:=⟨_,List.getElem?_eq_getElem (by rw [HN.out];exact hlt)⟩;obtain⟨b,off,rfl,hcell⟩:=HC.out (by omega);have c0:=hcell j x hx;have TK:(l.take (j+1)).map nmT=(l.take j).map nmT++[nmT x]:=by
    obtain⟨hk,he⟩:=List.getElem?_eq_some_iff.1 hx;rw [List.take_succ_eq_append_getElem hk,List.map_append,he];rfl
   have hle:=joinT_le_take (l.map nmT) (j+1);rw [←List.map_take,TK] at hle;have h2:=HL.out;have hlj:(l.take j).length=j:=(by rw [List.length_take,HN.out];omega);by_cases h0:j=0
   ·subst h0;have c0:w.cell? ⟨b,off,none⟩=some (.string x):=(by simpa using c0);rw [List.take_zero,List.map_nil,List.nil_append,joinT_one] at hle;have hS:S=⟨#[]⟩:=(by rw [HS.out];rfl);have HT:Hid (⟨#[]⟩++x=mb (CtM.joinT ((l.take 1).map nmT))):=Lh (ba_ext (by rw [TK,List.take_zero,List.map_nil,List.nil_append,joinT_one];simp [ByteArray.data_append,nmT]));have hxs:x.size≤140737488355328:=(by rw [nmT_len'] at hle;omega);subst hS;clear hx hcell TK hle h2 hlj HS;go_wp2;go_round
    case rel=>exact⟨1,⟨#[]⟩++x,by omega,rfl,rfl,by rw [ByteArray.size_append];show 0+x.size≤_;omega,HT⟩
    case measure=>simp [intOf];omega
   ·rw [joinT_snoc _ _ (by intro e;have:=congrArg List.length e;rw [List.length_map,hlj] at this;simp at this;omega)] at hle;have HT:Hid (S++⟨#[44,32]⟩++x=mb (CtM.joinT ((l.take (j+1)).map nmT))):=Lh (ba_ext (by rw [TK,joinT_snoc _ _ (by intro e;have:=congrArg List.length e;rw [List.length_map,hlj] at this;simp at this;omega),HS.out];simp [ByteArray.data_append,nmT]));have hss:S.size=(CtM.joinT ((l.take j).map nmT)).length:=(by rw [HS.out];rfl);simp only [List.length_append,List.length_cons,nmT_len'] at hle;have hxs:S.size+2+x.size≤140737488355328:=(by omega);have hpos:0<j:=(by omega);clear hx hcell TK hle h2 hlj HS hss h0;go_wp2;go_round
    case rel=>exact⟨j+1,S++⟨#[44,32]⟩++x,by omega,by go_num,rfl,by rw [ByteArray.size_append,ByteArray.size_append];exact hxs,HT⟩
    case measure=>simp [intOf];omega
  ·obtain rfl:j=n:=(by omega);go_wp2;go_ret;exact⟨rets (by rw [HS.out,List.take_of_length_le (by rw [HN.out];exact Nat.le_refl _)]),rfl⟩
theorem own_keep {w w':World} {base:Nat} {e:TypeId} {size n:Nat} {v:Value} {xs:List Value} (h:w.ownsRow base e size v n xs) (hb:Below w.heap.size w w'):w'.ownsRow base e size v n xs :=
 own_grown h (row:=none) ⟨hb.os,hb.tape,hb.output,hb.size,fun k hk _=>hb.block k hk⟩ (fun _ _ e=>by cases e)
theorem own_block {w:World} {base:Nat} {e:TypeId} {size n:Nat} {v:Value} {xs:List Value} (h:w.ownsRow base e size v n xs):∀ k,v.ownBlock=some k→base≤k:=by
 intro k hk;rcases h.2 with ⟨rfl,_⟩ | ⟨g,cap,cur,rfl,hB,_⟩
 ·simp [Value.ownBlock] at hk
 ·obtain rfl:g=k:=(by simpa [Value.ownBlock] using hk);exact hB
theorem cell_one (w:World) (x:Value) (t:TypeId):∀ j u,([x]:List Value)[j]? = some u→(w.alloc (.cells #[x] t)).cell? ((⟨w.heap.size,0,none⟩:Addr).add j)=some u:=by
 intro j u hu;match j,hu with
 | 0,hu=>cases hu;exact cell_one_new w x t 0 _ rfl
 | j+1,hu=>simp at hu
def wtC (l:List Wt):List Value:=l.map (fun t=>Value.string (mb (wtT t)))
theorem wtC_take {l:List Wt} {j:Nat} {t:Wt} (h:l[j]? = some t):wtC (l.take (j+1))=wtC (l.take j)++[.string (mb (wtT t))]:=by
 obtain⟨hj,he⟩:=List.getElem?_eq_some_iff.1 h;unfold wtC;rw [List.take_succ_eq_append_getElem hj,List.map_append,he];rfl
theorem weightsR_any (l:List Wt) (v:Value) (N:Nat) (w:World) (h:WtA N w v l) (hN:N≤w.heap.size) (hb:∀ t∈l,okI t) (hl:l.length≤2000000) :
  Calls Tryz.prog 11 #[v] w (tS (wtsT l) w):=by
 obtain⟨i0,hi,hz0,hz1,hz2⟩:=info_parts infoStr;obtain⟨p,cap,rfl,_,hcap,hx⟩:=h;have HXX:=Lh hx;have HM:=Lh hb;clear hx hb;obtain⟨n,hnn⟩:∃ n,l.length=n:=⟨_,rfl⟩;rw [hnn] at hcap hl ⊢;have HN:=Lh hnn;clear hnn
 go_enter Tryz.func11,Tryz.ntmps11
 go_wp2;go_loopw [3,4] (fun u i wr=>∃ k:Nat,k≤n∧i=.int .i64 k∧Hid (wr.ownsRow w.heap.size 9 1 u k (wtC (l.take k)))∧Hid (Below w.heap.size w wr)) (fun _ i _=>n - (intOf i).toNat)
 case atStart=>exact⟨0,Nat.zero_le _,rfl,Lh (World.ownsRow_nil _ _ _ _),Lh (Below.refl _ _)⟩
 case round =>
  obtain⟨k,hk,rfl,OW,BW⟩:=hrel;obtain⟨pv,cv,rfl⟩:∃ pv cv,u3=.slice pv k cv:=by
   rcases OW.out.2 with ⟨h1,h2⟩ | ⟨g,cap,cur,h1,_⟩
   ·exact⟨none,0,by rw [h1,h2]⟩
   ·exact⟨_,_,h1⟩
  by_cases hlt:k<n
  ·obtain⟨b,off,rfl,hbs,hcell⟩:=HXX.out (by rw [HN.out];omega);obtain⟨t,htk⟩:∃ t,l[k]? = some t:=⟨_,List.getElem?_eq_getElem (by rw [HN.out];exact hlt)⟩;obtain⟨q0,q1,q2,q3⟩:=hcell k t htk;have hbw:b<w.heap.size:=Nat.lt_of_lt_of_le hbs hN;have ca0:wr.cell? ⟨b,off+k*4,none⟩=some (.int .i64 t.lo):=(by rw [BW.out.cell hbw];exact q0);have ca1:wr.cell? ⟨b,off+k*4+1,none⟩=some (.int .i64 t.hi):=(by rw [BW.out.cell hbw];exact q1);have ca2:wr.cell? ⟨b,off+k*4+2,none⟩=some (.int .i64 t.wt):=(by rw [BW.out.cell hbw];exact q2);have ca3:wr.cell? ⟨b,off+k*4+3,none⟩=some (.bool t.ea):=(by rw [BW.out.cell hbw];exact q3);have TK:=Lh (wtC_take htk);obtain⟨h1,h2,h3⟩:=HM.out t (List.mem_of_getElem? htk);have FL:Hid (∀ W,Below w.heap.size w W→Calls Tryz.prog 25 #[.int .i64 t.lo] W (tS (Lib.itoa t.lo) W)):=(Lh fun W _=>dec_any t.lo W h1);have FH:Hid (∀ W,Below w.heap.size w W→Calls Tryz.prog 25 #[.int .i64 t.hi] W (tS (Lib.itoa t.hi) W)):=(Lh fun W _=>dec_any t.hi W h2);have FW:Hid (∀ W,Below w.heap.size w W→Calls Tryz.prog 25 #[.int .i64 t.wt] W (tS (Lib.itoa t.wt) W)):=(Lh fun W _=>dec_any t.wt W h3);have EE:Hid (wtT t=Lib.itoa t.lo++((if t.hi≠t.lo then 32::46::46::32::Lib.itoa t.hi else [])++(32::58::(if t.ea then 61 else 47)::32::Lib.itoa t.wt))):=Lh rfl;have z1:=itoa_le h1;have z2:=itoa_le h2;have z3:=itoa_le h3;have TK2:Hid (∀ S:ByteArray,S.data.toList=wtT t→wtC (l.take (k+1))=wtC (l.take k)++[.string S]):=(Lh fun S hS=>by rw [TK.out,←hS]);rw [EE.out] at TK2;clear hcell q0 q1 q2 q3 htk h1 h2 h3 TK EE;obtain⟨L,hL⟩:∃ x,Lib.itoa t.lo=x:=⟨_,rfl⟩;obtain⟨H,hH⟩:∃ x,Lib.itoa t.hi=x:=⟨_,rfl⟩;obtain⟨Q,hQ⟩:∃ x,Lib.itoa t.wt=x:=⟨_,rfl⟩;rw [hL] at FL z1 TK2;rw [hH] at FH z2 TK2;rw [hQ] at FW z3 TK2;clear hL hH hQ;obtain⟨lo,hi',wt,ea,e0,e1,e2,e3⟩:∃ lo hi wt ea,t.lo=lo∧t.hi=hi∧t.wt=wt∧t.ea=ea:=⟨_,_,_,_,rfl,rfl,rfl,rfl⟩;rw [e0] at ca0 FL TK2;rw [e1] at ca1 FH TK2;rw [e2] at ca2 FW;rw [e3] at ca3 TK2;clear e0 e1 e2 e3;have l2:=BW.out.then_ (ba wr (.cells #[.int .i64 lo,.int .i64 hi',.int .i64 wt,.bool ea] 45));have F1:=Four.new wr (.int .i64 lo) (.int .i64 hi') (.int .i64 wt) (.bool ea) 45;have O1:=own_keep OW.out (ba wr (.cells #[.int .i64 lo,.int .i64 hi',.int .i64 wt,.bool ea] 45));obtain⟨W0,hW0⟩:∃ W0,wr.alloc (.cells #[.int .i64 lo,.int .i64 hi',.int .i64 wt,.bool ea] 45)=W0:=⟨_,rfl⟩;rw [hW0] at F1 l2 O1;have HB:=Lh l2;have HF:=Lh F1;have HO:=Lh O1;have HX:=Lh (Below.refl W0.heap.size W0);have hlt0:=F1.lt;have c0:=F1.c0;have c1:=F1.c1;have c2:=F1.c2;have c3:=F1.c3;have hBs:w.heap.size≤wr.heap.size:=BW.out.size;clear F1 l2 O1;have f3:=HF.out.f3;obtain⟨U1,hU1⟩:∃ x,x=L++(if hi'≠lo then 32::46::46::32::H else []):=⟨_,rfl⟩;obtain⟨U2,hU2⟩:∃ x,x=U1++(32::58::(if ea then 61 else 47)::[32]):=⟨_,rfl⟩;have l1:U1.length≤50:=(by rw [hU1];split<;>simp<;>omega);have l2:U2.length≤60:=(by rw [hU2];simp;omega);have HU1:=Lh hU1;have HU2:=Lh hU2;have TK3:=Lh (TK2.out (mb U2++mb Q) (by rw [hU2,hU1];simp [ByteArray.data_append]));clear TK2 hU1 hU2
   go_upto_if 24 with ((go_at_call 25;((with_reducible refine (FL.out _ (HB.out.then_ HX.out)).mono ?_);rintro e w2 ⟨rfl,hb⟩;have HX:=Lh (HX.out.then_ hb);(try clear c0 c1 c2 c3);have F2:=HF.out.stay HX.out;have c0:=F2.c0;have c1:=F2.c1;have c2:=F2.c2;have c3:=F2.c3;clear F2;clear hb)))
   go_cut [6] from 7 to 44 (fun s6 wx=>s6=.string (mb U1)∧Hid (Below W0.heap.size W0 wx))
   case first =>
    by_cases hq:hi'=lo
    ·have HE:Hid (mb L=mb U1):=Lh (by rw [HU1.out,if_neg (by simp [hq]),List.append_nil]);have q1:(hi' != lo)=false:=(by simp [hq]);clear hq;go_wp2_with fail
     go_meet
     exact⟨by rw [HE.out],HX⟩
    ·have HE:Hid (mb L++⟨#[32,46,46,32]⟩++mb H=mb U1):=Lh (ba_ext (by rw [HU1.out,if_pos hq];simp [ByteArray.data_append]));have q1:(hi' != lo)=true:=(by simpa using hq);clear hq;go_wp2_with ((go_at_call 25;((with_reducible refine (FH.out _ (HB.out.then_ HX.out)).mono ?_);rintro e w2 ⟨rfl,hb⟩;have HX:=Lh (HX.out.then_ hb);(try clear c0 c1 c2 c3);have F2:=HF.out.stay HX.out;have c0:=F2.c0;have c1:=F2.c1;have c2:=F2.c2;have c3:=F2.c3;clear F2;clear hb)))
     go_meet
     exact⟨by rw [HE.out],HX⟩
   case rest =>
    obtain⟨rfl,HX'⟩:=hcut
    (try clear c0 c1 c2 c3)
    clear HX;have HX:=HX';clear HX'
    (try clear c0 c1 c2 c3);have F2:=HF.out.stay HX.out;have c0:=F2.c0;have c1:=F2.c1;have c2:=F2.c2;have c3:=F2.c3;clear F2
    go_upto_if 32 with (fail)
    go_cut [6] from 7 to 44 (fun s6 wx=>s6=.string (mb U2)∧Hid (Below W0.heap.size W0 wx))
    case first =>
     cases ea
     ·have HE:Hid (mb U1++⟨#[32,58,47,32]⟩=mb U2):=Lh (ba_ext (by rw [HU2.out];simp [ByteArray.data_append]));go_wp2_with fail
      go_meet
      exact⟨by rw [HE.out],HX⟩
     ·have HE:Hid (mb U1++⟨#[32,58,61,32]⟩=mb U2):=Lh (ba_ext (by rw [HU2.out];simp [ByteArray.data_append]));go_wp2_with fail
      go_meet
      exact⟨by rw [HE.out],HX⟩
    case rest =>
     obtain⟨rfl,HX'⟩:=hcut
     (try clear c0 c1 c2 c3)
     clear HX;have HX:=HX';clear HX'
     (try clear c0 c1 c2 c3);have F2:=HF.out.stay HX.out;have c0:=F2.c0;have c1:=F2.c1;have c2:=F2.c2;have c3:=F2.c3;clear F2
     go_wp2_with (first
      |(go_at_call 25;((with_reducible refine (FW.out _ (HB.out.then_ HX.out)).mono ?_);rintro e w2 ⟨rfl,hb⟩;have HX:=Lh (HX.out.then_ hb);(try clear c0 c1 c2 c3);have F2:=HF.out.stay HX.out;have c0:=F2.c0;have c1:=F2.c1;have c2:=F2.c2;have c3:=F2.c3;clear F2;clear hb))
      |(at_builtin;(refine wpList_append_own _ rfl _ _ 43 rfl w.heap.size 9 i0 (.string ⟨#[]⟩) 1 16 Tryz.underlying43 hi hz0 hz1 hz2 rfl (by decide) _ k _ rfl ((own_keep HO.out HX.out).alloc _) ⟨w2.heap.size,0,none⟩ 1 1 [.string (mb U2++mb Q)] rfl rfl (cell_one _ _ _) (by simp [Value.oneCell']) (by unfold maxLen;omega) (by omega) (by have:=HX.out.size;simp;omega) ?_;intro v' w6 hown' hgrow _;have HO6:=Lh hown';have HB6:Hid (Below w.heap.size w w6):=Lh (((HB.out.then_ HX.out).then_ (ba _ _)).grown hgrow (by have:=HX.out.size;simp;omega) (fun q hq=>own_block (own_keep HO.out HX.out) q hq));clear hown' hgrow c0 c1 c2 c3)))
     go_roundw
     case rel=>exact⟨k+1,by omega,by go_num,Lh (by rw [TK3.out];exact HO6.out),HB6⟩
     case measure=>simp [intOf];omega
  ·obtain rfl:n=k:=(by omega);have HL:=joinT_len 80 (l.map wtT) (fun x hx=>by
    obtain⟨t,ht,rfl⟩:=List.mem_map.1 hx;exact wtT_len (HM.out t ht))
   rw [List.length_map,HN.out] at HL;have e2:(l.map (fun t=>mb (wtT t))).map nmT=l.map wtT:=(by rw [List.map_map];rfl);have OX:=OW.out;rw [List.take_of_length_le (by rw [HN.out];exact Nat.le_refl _)] at OX;have JC:=joined_any (l.map (fun t=>mb (wtT t))) pv n cv wr (by rw [List.length_map,HN.out]) (fun h0=>by
    rcases OX.2 with ⟨_,h2⟩ | ⟨g,cap,cur,h1,_⟩
    ·omega
    ·obtain⟨rfl,_,rfl⟩:pv=some ⟨g,0,none⟩∧True∧cv=cap:=(by simp at h1;exact⟨h1.1,trivial,h1.2⟩);refine⟨g,0,rfl,fun i s hs=>?_⟩;have hin:i<n:=(by have:=(List.getElem?_eq_some_iff.1 hs).1;rw [List.length_map,HN.out] at this;exact this);rw [Nat.zero_add,World.ownsRow.cellAt OX i (by omega)];unfold wtC;rw [List.getElem?_map] at hs ⊢;obtain⟨t,ht,rfl⟩:=Option.map_eq_some_iff.1 hs;rw [ht];rfl) (by omega) (by rw [e2];omega)
   rw [e2] at JC;have SJ:=Lh JC;clear HL e2 OX JC;go_wp2_with (go_at_call 26;((with_reducible refine SJ.out.mono ?_);rintro e w1 ⟨rfl,rfl⟩))
   go_ret;exact⟨rfl,BW.out⟩
end CtR
end Go.Proofs.YtihnejaopejbgaaGreatDoor
