/-
  Laws that the card uses; no conditions beside those that each states (EtRefA CtRefA).
-/
import Derived.Test.YtihnejaopejbgaaGreatDoorP17
import Derived.Test.YtihnejaopejbgaaGreatDoorP30
set_option maxRecDepth 100000
set_option maxHeartbeats 16000000
namespace Go.Proofs.YtihnejaopejbgaaGreatDoor
namespace EtR
open Go Go.RowKit NumM LexW LexM ExM ExW EtM EtW
theorem decimalR_any (n:Int) (w:World) (h0:0≤n) (h1:n≤65535):Calls Tryz.prog 142 #[.int .i64 n] w fun e w'=>e=.returned (.string (bs (Lib.itoa n)))∧Below w.heap.size w w':=by
 have NC:=Lh (refNumber_any n w (by omega) (by omega));have L:=itoa_len (n:=n) (by omega) (by omega);obtain⟨B,hB⟩:∃ B:ByteArray,bs (numP n)=B:=⟨_,rfl⟩;have hl:B.size=(Lib.itoa n).length+1:=(by rw [←hB];show (Lib.itoa n++[59]).length=_;simp);have F:Hid (B.extract 0 (Lib.itoa n).length=bs (Lib.itoa n)):=Lh (bs_inj (by rw [←hB];simp [numP]));rw [hB] at NC;generalize bs (Lib.itoa n)=T at *
 generalize (Lib.itoa n).length=m at *
 have i1:((B.size:Int) - 1).toNat=m:=(by omega);have i2:(B.size:Int) - 1≤(B.size:Int):=(by omega);have i3:(0:Int)≤(B.size:Int) - 1:=(by omega);have i4:(B.size:Int) - 1=(m:Int):=(by omega);clear hB hl h0 h1
 go_enter Tryz.func142,Tryz.ntmps142
 go_wp2_with (go_at_call 43;((with_reducible refine NC.out.mono ?_);rintro e w1 ⟨rfl,hb⟩;have HB:=Lh hb;clear hb))
 go_ret;exact⟨rets1 F.out,HB.out⟩
def sgM (o:Int):List UInt8:=if o=21 then [] else bMark o
def sgL (o:Int):Int:=if o=21 then 0 else bLev o
theorem signR_any (o:Int) (w:World):Calls Tryz.prog 138 #[.int .i64 o] w fun e w'=>e=.returned (.tuple #[.string (bs (sgM o)),.int .i64 (sgL o)])∧w=w':=by
 by_cases h20:o=20
 ·subst h20
  go_enter Tryz.func138,Tryz.ntmps138
  go_wp2;go_ret2;exact⟨rfl,rfl⟩
 by_cases h19:o=19
 ·subst h19
  go_enter Tryz.func138,Tryz.ntmps138
  go_wp2;go_ret2;exact⟨rfl,rfl⟩
 by_cases h11:o=11
 ·subst h11
  go_enter Tryz.func138,Tryz.ntmps138
  go_wp2;go_ret2;exact⟨rfl,rfl⟩
 by_cases h12:o=12
 ·subst h12
  go_enter Tryz.func138,Tryz.ntmps138
  go_wp2;go_ret2;exact⟨rfl,rfl⟩
 by_cases h10:o=10
 ·subst h10
  go_enter Tryz.func138,Tryz.ntmps138
  go_wp2;go_ret2;exact⟨rfl,rfl⟩
 by_cases h15:o=15
 ·subst h15
  go_enter Tryz.func138,Tryz.ntmps138
  go_wp2;go_ret2;exact⟨rfl,rfl⟩
 by_cases h16:o=16
 ·subst h16
  go_enter Tryz.func138,Tryz.ntmps138
  go_wp2;go_ret2;exact⟨rfl,rfl⟩
 by_cases h17:o=17
 ·subst h17
  go_enter Tryz.func138,Tryz.ntmps138
  go_wp2;go_ret2;exact⟨rfl,rfl⟩
 by_cases h18:o=18
 ·subst h18
  go_enter Tryz.func138,Tryz.ntmps138
  go_wp2;go_ret2;exact⟨rfl,rfl⟩
 by_cases h13:o=13
 ·subst h13
  go_enter Tryz.func138,Tryz.ntmps138
  go_wp2;go_ret2;exact⟨rfl,rfl⟩
 by_cases h14:o=14
 ·subst h14
  go_enter Tryz.func138,Tryz.ntmps138
  go_wp2;go_ret2;exact⟨rfl,rfl⟩
 by_cases h7:o=7
 ·subst h7
  go_enter Tryz.func138,Tryz.ntmps138
  go_wp2;go_ret2;exact⟨rfl,rfl⟩
 by_cases h8:o=8
 ·subst h8
  go_enter Tryz.func138,Tryz.ntmps138
  go_wp2;go_ret2;exact⟨rfl,rfl⟩
 by_cases h9:o=9
 ·subst h9
  go_enter Tryz.func138,Tryz.ntmps138
  go_wp2;go_ret2;exact⟨rfl,rfl⟩
 have e1:sgM o=[]:=by
  unfold sgM bMark;by_cases h:o=21
  ·rw [if_pos h]
  ·simp only [h,h20,h19,h11,h12,h10,h15,h16,h17,h18,h13,h14,h7,h8,h9,if_false]
 have e2:sgL o=0:=by
  unfold sgL bLev;by_cases h:o=21
  ·rw [if_pos h]
  ·simp only [h,h20,h19,h11,h12,h10,h15,h16,h17,h18,h13,h14,h7,h8,h9,if_false]
 rw [e1,e2];have n20:(o == 20)=false:=(by simpa using h20);have n19:(o == 19)=false:=(by simpa using h19);have n11:(o == 11)=false:=(by simpa using h11);have n12:(o == 12)=false:=(by simpa using h12);have n10:(o == 10)=false:=(by simpa using h10);have n15:(o == 15)=false:=(by simpa using h15);have n16:(o == 16)=false:=(by simpa using h16);have n17:(o == 17)=false:=(by simpa using h17);have n18:(o == 18)=false:=(by simpa using h18);have n13:(o == 13)=false:=(by simpa using h13);have n14:(o == 14)=false:=(by simpa using h14);have n7:(o == 7)=false:=(by simpa using h7);have n8:(o == 8)=false:=(by simpa using h8);have n9:(o == 9)=false:=(by simpa using h9);clear e1 e2 h20 h19 h11 h12 h10 h15 h16 h17 h18 h13 h14 h7 h8 h9
 go_enter Tryz.func138,Tryz.ntmps138
 go_wp2;go_ret2;exact⟨rfl,rfl⟩
theorem prefixR_any (o:Int) (w:World):Calls Tryz.prog 140 #[.int .i64 o] w fun e w'=>e=.returned (.string (bs (pMark o)))∧w=w':=by
 by_cases h4:o=4
 ·subst h4
  go_enter Tryz.func140,Tryz.ntmps140
  go_wp2;go_ret;exact⟨rfl,rfl⟩
 by_cases h5:o=5
 ·subst h5
  go_enter Tryz.func140,Tryz.ntmps140
  go_wp2;go_ret;exact⟨rfl,rfl⟩
 by_cases h6:o=6
 ·subst h6
  go_enter Tryz.func140,Tryz.ntmps140
  go_wp2;go_ret;exact⟨rfl,rfl⟩
 have e1:pMark o=[]:=by
  unfold pMark;simp only [h4,h5,h6,if_false]
 rw [e1];have n4:(o == 4)=false:=(by simpa using h4);have n5:(o == 5)=false:=(by simpa using h5);have n6:(o == 6)=false:=(by simpa using h6);clear e1 h4 h5 h6
 go_enter Tryz.func140,Tryz.ntmps140
 go_wp2;go_ret;exact⟨rfl,rfl⟩
theorem sgL_nn (o:Int):0≤sgL o:=by
 unfold sgL bLev;repeat' split
 all_goals omega
theorem levelR_any (o:Int) (w:World):Calls Tryz.prog 163 #[.int .i64 o] w fun e w'=>e=.returned (.int .i64 (lvS o))∧w=w':=by
 have SC:=Lh (signR_any o);have PC:=Lh (prefixR_any o);by_cases h0:0<sgL o
 ·have e1:lvS o=sgL o:=by
   unfold sgL at h0 ⊢;by_cases h:o=21
   ·rw [if_pos h] at h0;omega
   ·rw [if_neg h] at h0 ⊢;unfold lvS;have h22:o≠22:=(fun e=>by subst e;exact absurd h0 (by decide));have h23:o≠23:=(fun e=>by subst e;exact absurd h0 (by decide));rw [if_neg h22,if_neg h23,if_pos (by omega)]
  rw [e1];generalize sgL o=l at *
  generalize bs (sgM o)=m at *
  clear e1
  go_enter Tryz.func163,Tryz.ntmps163
  go_wp2_with (go_at_call 138;((with_reducible refine (SC.out _).mono ?_);rintro e w' ⟨rfl,rfl⟩))
  go_ret;exact⟨rfl,rfl⟩
 ·have hz:sgL o=0:=(by have:=sgL_nn o;omega);have hb:o≠21→bLev o=0:=(fun h=>by unfold sgL at hz;rwa [if_neg h] at hz);rw [hz] at SC;generalize bs (sgM o)=m at *
  clear h0 hz;by_cases h22:o=22
  ·subst h22
   go_enter Tryz.func163,Tryz.ntmps163
   go_wp2_with (go_at_call 138;((with_reducible refine (SC.out _).mono ?_);rintro e w' ⟨rfl,rfl⟩))
   go_ret;exact⟨rfl,rfl⟩
  by_cases h21:o=21
  ·subst h21
   go_enter Tryz.func163,Tryz.ntmps163
   go_wp2_with (go_at_call 138;((with_reducible refine (SC.out _).mono ?_);rintro e w' ⟨rfl,rfl⟩))
   go_ret;exact⟨rfl,rfl⟩
  by_cases h23:o=23
  ·subst h23
   go_enter Tryz.func163,Tryz.ntmps163
   go_wp2_with (go_at_call 138;((with_reducible refine (SC.out _).mono ?_);rintro e w' ⟨rfl,rfl⟩))
   go_ret;exact⟨rfl,rfl⟩
  have n22:(o == 22)=false:=(by simpa using h22);have n21:(o == 21)=false:=(by simpa using h21);have n23:(o == 23)=false:=(by simpa using h23);by_cases hp:o=4∨o=5∨o=6
  ·have e1:lvS o=13:=(by unfold lvS;rw [if_neg h22,if_neg h23,if_neg (by rw [hb h21];decide),if_pos hp]);rw [e1];rcases hp with rfl | rfl | rfl
   all_goals
    clear e1 hb h22 h21 h23
    go_enter Tryz.func163,Tryz.ntmps163
    go_wp2_with (first | (go_at_call 138;((with_reducible refine (SC.out _).mono ?_);rintro e w' ⟨rfl,rfl⟩)) | (go_at_call 140;((with_reducible refine (PC.out _).mono ?_);rintro e w' ⟨rfl,rfl⟩)))
    go_ret;exact⟨rfl,rfl⟩
  ·have e1:lvS o=14:=(by unfold lvS;rw [if_neg h22,if_neg h23,if_neg (by rw [hb h21];decide),if_neg hp]);have e2:pMark o=[]:=by
    simp only [not_or] at hp;unfold pMark;simp only [hp.1,hp.2.1,hp.2.2,if_false]
   rw [e1];rw [e2] at PC;clear e1 e2 hp hb h22 h21 h23
   go_enter Tryz.func163,Tryz.ntmps163
   go_wp2_with (first | (go_at_call 138;((with_reducible refine (SC.out _).mono ?_);rintro e w' ⟨rfl,rfl⟩)) | (go_at_call 140;((with_reducible refine (PC.out _).mono ?_);rintro e w' ⟨rfl,rfl⟩)))
   go_ret;exact⟨rfl,rfl⟩
theorem splitR_yes (s:ByteArray) (w:World) (hs:s.size≤140737488351232) {r:List UInt8} {d:UInt8} (h:s.data.toList=r++[91,d,93]) (hn:nmB r=true) (h1:48≤d.toNat) (h2:d.toNat≤55):Calls Tryz.prog 141 #[.string s] w fun e w'=>e=.returned (.tuple #[.string (bs r),.int .i64 ((d.toNat:Int) - 48),.bool true])∧Below w.heap.size w w':=by
 have hsz:s.size=r.length+3:=(by rw [←len_data,h];simp);obtain⟨m,hm⟩:∃ m,r.length=m:=⟨_,rfl⟩;rw [hm] at hsz;have hm1:1≤m:=by
  have:=(nm_parts hn).1;rw [←hm];exact List.length_pos_iff.2 this
 have g0:m<s.size:=(by omega);have g1:m+1<s.size:=(by omega);have g2:m+2<s.size:=(by omega);have gv:∀ (k:Nat) (hk:k<s.size),s[k]=s.data.toList[k]'(by rw [len_data];exact hk):=(fun k hk=>by simp;rfl);have v0:(s[m].toNat:Int)=91:=(by rw [gv m g0];simp [h,←hm]);have v1:(s[m+1].toNat:Int)=(d.toNat:Int):=(by rw [gv (m+1) g1];simp [h,←hm]);have v2:(s[m+2].toNat:Int)=93:=(by rw [gv (m+2) g2];simp [h,←hm]);have hx:s.extract 0 m=bs r:=bs_inj (by rw [ext_list,h];simp [←hm]);have NC:Hid (∀ W,Calls Tryz.prog 63 #[.string (bs r)] W (tBool true W)):=Lh fun W=>by
  have q:=nameR_any (bs r) W (by show r.length≤_;omega);have e:nmB (bs r).data.toList=true:=hn;rw [e] at q;exact q
 have HX:=Lh hx;have i1:((s.size:Int) - 1).toNat=m+2:=(by omega);have i2:((s.size:Int) - 2).toNat=m+1:=(by omega);have i3:((s.size:Int) - 3).toNat=m:=(by omega);have j1:(s.size:Int) - 1<(s.size:Int):=(by omega);have j2:(s.size:Int) - 2<(s.size:Int):=(by omega);have j3:(s.size:Int) - 3<(s.size:Int):=(by omega);have h4':¬ (s.size:Int)<4:=(by omega);obtain⟨d',hd⟩:∃ d':Nat,d.toNat=d':=⟨_,rfl⟩;rw [hd] at v1 h1 h2 ⊢;have k1:(48:Int)≤(d':Int):=(by omega);have k2:(d':Int)≤55:=(by omega);rw [←hx] at NC;rw [←hx];clear h hn gv hx hd hm
 go_enter Tryz.func141,Tryz.ntmps141
 go_wp2_with (go_at_call 63;((with_reducible refine (NC.out _).mono ?_);rintro e w1 ⟨rfl,hb⟩;have HB1:=Lh hb;clear hb))
 refine bodyPost_ret (v:=.tuple #[.string (s.extract 0 m),.int .i64 ((d':Int) - 48),.bool true]) (by simp [results,Tryz.results141,go_sem]) rfl ?_;exact⟨rfl,HB1.out⟩
end EtR
namespace CtR
open Go Go.RowKit Go.Shelf NumM LexW ExW ItW LexM ExM EtM EtW ItM CtM CtW
theorem bl_four (k:Nat):bl (k+1)=bl k++[32,32,32,32]:=by
 unfold bl;rw [show 4*(k+1)=4*k+4 by omega,←List.replicate_append_replicate];rfl
theorem blanks_any (k:Nat) (w:World) (hk:k≤1000):Calls Tryz.prog 87 #[.int .i64 k] w fun e w'=>e=.returned (.string (mb (bl k)))∧w=w':=by
 go_enter Tryz.func87,Tryz.ntmps87
 go_wp2;go_loop [3,4] (fun s i=>∃ (j:Nat) (S:ByteArray),j≤k∧i=.int .i64 j∧s=.string S∧S.size≤4000∧Hid (S=mb (bl j))) (fun _ i=>k - (intOf i).toNat)
 case atStart=>exact⟨0,⟨#[]⟩,Nat.zero_le _,rfl,rfl,by decide,Lh rfl⟩
 case round =>
  obtain⟨j,S,hj,rfl,rfl,hz,HS⟩:=hrel;by_cases hlt:j<k
  ·go_wp2;go_round
   case rel=>exact⟨j+1,S++⟨#[32,32,32,32]⟩,by omega,by go_num,rfl,by rw [HS.out];show (bl j++[32,32,32,32]).length≤4000;rw [←bl_four,bl_len];omega,Lh (ba_ext (by rw [HS.out,bl_four];simp [ByteArray.data_append]))⟩
   case measure=>simp [intOf];omega
  ·obtain rfl:j=k:=(by omega);go_wp2;go_ret;exact⟨rets HS.out,rfl⟩
end CtR
end Go.Proofs.YtihnejaopejbgaaGreatDoor
