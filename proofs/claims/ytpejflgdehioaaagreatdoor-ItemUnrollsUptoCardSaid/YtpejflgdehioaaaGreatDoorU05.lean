/-
  Laws that the card uses; no conditions beside those that each states (ExNameR).
-/
import Derived.Test.YtpejflgdehioaaaGreatDoorU02
import Derived.Test.YtpejflgdehioaaaGreatDoorU03
set_option maxRecDepth 100000
set_option maxHeartbeats 16000000
namespace Go.Proofs.YtpejflgdehioaaaGreatDoor
namespace LexW
open Go Go.RowKit NumM LexM
theorem nmB_of (s:ByteArray) (h0:0<s.size):nmB s.data.toList=(decide (s.size≤16)&&(sml s[0]&&(!isKw s.data.toList&&s.data.toList.all wrd))):=by
 have hl:=len_data s;rcases hx:s.data.toList with _ | ⟨c,r⟩
 ·rw [hx] at hl;simp at hl;omega
 ·obtain⟨_,hc⟩:=head_of s hx;rw [hx,List.length_cons] at hl;rw [hc,←hl];rfl
theorem not_allW {s:ByteArray} {k:Nat} (h:k<s.size) (g:wrd s[k]=false):s.data.toList.all wrd=false:=by
 cases e:s.data.toList.all wrd
 ·rfl
 ·have hm:s[k]∈s.data.toList:=by
   have:s.data.toList[k]'(by simpa using h)=s[k]:=rfl;rw [←this];exact List.getElem_mem _
  have:=List.all_eq_true.1 e _ hm;rw [g] at this;cases this
def tBool (b:Bool) (w:World) (e:Ending) (w':World):Prop:=e=.returned (.bool b)∧Below w.heap.size w w'
theorem tBool_mk {a b:Bool} {w w':World} (h:a=b) (hb:Below w.heap.size w w'):tBool b w (.returned (.bool a)) w':=by subst h;exact⟨rfl,hb⟩
theorem nameR_any (s:ByteArray) (w:World) (hs:s.size≤140737488351232):Calls Tryz.prog 42 #[.string s] w (tBool (nmB s.data.toList) w):=by
 have KC:=(fun W=>kwR_any s W);by_cases h0:0<s.size
 ·have e0:s.toList.isEmpty=false:=by
   rw [Lib.toList_data];have:=len_data s;cases hx:s.data.toList with
   | nil=>rw [hx] at this;simp at this;omega
   | cons a b=>rfl
  have hn:=nmB_of s h0;by_cases h16:16<s.size
  ·have EE:Hid (false=nmB s.data.toList):=Lh (by rw [hn,decide_eq_false (by omega)];rfl);clear hn KC
   go_enter Tryz.func42,Tryz.ntmps42
   go_wp2;go_ret;exact tBool_mk EE.out (Below.refl _ _)
  rw [decide_eq_true (show s.size≤16 by omega)] at hn;have hsm:=sm_byte s[0];cases h1:sml s[0]
  ·rw [h1] at hsm;have EE:Hid (false=nmB s.data.toList):=Lh (by rw [hn,h1];rfl);clear hn KC h1
   go_enter Tryz.func42,Tryz.ntmps42
   go_wp2_with (go_at_call 78;refine (smallR_any _ _).mono ?_;rintro e w' ⟨rfl,rfl⟩)
   go_ret;exact tBool_mk EE.out (Below.refl _ _)
  ·rw [h1] at hsm hn;cases h2:isKw s.data.toList
   ·rw [h2] at KC hn;have KC:=Lh KC;have HN:=Lh hn;clear hn h1 h2
    go_enter Tryz.func42,Tryz.ntmps42
    go_wp2_with (first | (go_at_call 78;refine (smallR_any _ _).mono ?_;rintro e w' ⟨rfl,rfl⟩) | (go_at_call 79;((with_reducible refine (KC.out _).mono ?_);rintro e w1 ⟨rfl,hb⟩;have HB:=Lh hb;clear hb)))
    go_loop [3] (fun i=>∃ k:Nat,k≤s.size∧i=.int .i64 k∧Hid ((s.data.toList.take k).all wrd=true)) (fun i=>s.size - (intOf i).toNat)
    case atStart=>exact⟨0,Nat.zero_le _,rfl,Lh rfl⟩
    case round =>
     obtain⟨k,hk,rfl,AL⟩:=hrel;by_cases hlt:k<s.size
     ·have IC:∀ W,Calls Tryz.prog 80 #[.int .u8 (s[k].toNat:Int)] W fun e w'=>e=.returned (.bool (wrd s[k]))∧W=w':=fun W=>inner_any s[k] W
      cases hw:wrd s[k]
      ·rw [hw] at IC;have EE:Hid (false=nmB s.data.toList):=Lh (by rw [HN.out,not_allW hlt hw];rfl);have IC:=Lh IC;clear hw;go_wp2_with (go_at_call 80;((with_reducible refine (IC.out _).mono ?_);rintro e w' ⟨rfl,rfl⟩))
       go_ret;exact tBool_mk EE.out HB.out
      ·rw [hw] at IC;have A2:Hid ((s.data.toList.take (k+1)).all wrd=true):=Lh (by rw [take_snoc s k hlt,List.all_append,AL.out];simp [hw]);have IC:=Lh IC;clear hw;go_wp2_with (go_at_call 80;((with_reducible refine (IC.out _).mono ?_);rintro e w' ⟨rfl,rfl⟩))
       go_round
       case rel=>exact⟨k+1,by omega,by go_num,A2⟩
       case measure=>simp [intOf];omega
     ·have EE:Hid (true=nmB s.data.toList):=Lh (by
       have:=AL.out;rw [List.take_of_length_le (by rw [len_data];omega)] at this;rw [HN.out,this];rfl)
      go_wp2;go_ret;exact tBool_mk EE.out HB.out
   ·rw [h2] at KC hn;have KC:=Lh KC;have EE:Hid (false=nmB s.data.toList):=Lh (by rw [hn];rfl);clear hn h1 h2
    go_enter Tryz.func42,Tryz.ntmps42
    go_wp2_with (first | (go_at_call 78;refine (smallR_any _ _).mono ?_;rintro e w' ⟨rfl,rfl⟩) | (go_at_call 79;((with_reducible refine (KC.out _).mono ?_);rintro e w1 ⟨rfl,hb⟩;have HB:=Lh hb;clear hb)))
    go_ret;exact tBool_mk EE.out HB.out
 ·have hx:s.data.toList=[]:=List.length_eq_zero_iff.1 (by rw [len_data];omega);have e0:s.toList=[]:=(by rw [Lib.toList_data,hx]);have EE:Hid (false=nmB s.data.toList):=Lh (by rw [hx];rfl);clear hx KC
  go_enter Tryz.func42,Tryz.ntmps42
  go_wp2;go_ret;exact tBool_mk EE.out (Below.refl _ _)
end LexW
end Go.Proofs.YtpejflgdehioaaaGreatDoor
