/-
  Laws that the card uses; no conditions beside those that each states (ExRefB).
-/
import Derived.Test.YtihnejaopejbgaaGreatDoorP17
set_option maxRecDepth 100000
set_option maxHeartbeats 16000000
namespace Go.Proofs.YtihnejaopejbgaaGreatDoor
namespace ExW
open Go Go.RowKit NumM LexW LexM ExM
theorem last3 (s:ByteArray) (m:Nat) (h:s.size=m+3) (h1:m<s.size) (h2:m+1<s.size) (h3:m+2<s.size):s.data.toList=(s.extract 0 m).data.toList++[s[m],s[m+1],s[m+2]]:=by
 rw [ext_list];apply List.ext_getElem
 ·simp;omega
 ·intro i a b;rw [List.getElem_append];have hl:s.data.toList.length=m+3:=(by rw [len_data];exact h);split
  ·rename_i g;simp
  ·rename_i g;simp at g;have:i=m∨i=m+1∨i=m+2:=(by omega);rcases this with rfl | rfl | rfl
   all_goals simp [hl]
   all_goals rfl
theorem elm_last {r:List UInt8} {b d c:UInt8}:elmB (r++[b,d,c])=(decide (c=93)&&(decide (b=91)&&(decide (48≤d.toNat∧d.toNat≤55)&&nmB r))):=by
 unfold elmB;simp
def tSplit (x:Bool) (w:World) (e:Ending) (w':World):Prop:=∃ t i,e=.returned (.tuple #[.string t,.int .i64 i,.bool x])∧Below w.heap.size w w'
theorem tSplit_mk {x y:Bool} {t:ByteArray} {i:Int} {w w':World} (h:x=y) (hb:Below w.heap.size w w'):tSplit y w (.returned (.tuple #[.string t,.int .i64 i,.bool x])) w':=by subst h;exact⟨t,i,rfl,hb⟩
theorem split_any (s:ByteArray) (w:World) (hs:s.size≤140737488351232):Calls Tryz.prog 141 #[.string s] w (tSplit (elmB s.data.toList) w):=by
 have HB0:=Lh (Below.refl w.heap.size w);by_cases h4:s.size<4
 ·have EE:Hid (false=elmB s.data.toList):=Lh (by
   rw [eq_comm,Bool.eq_false_iff];intro h;obtain⟨r,d,e,_,hn⟩:=elm_iff.1 h;have:=congrArg List.length e;rw [len_data] at this;have:r=[]:=List.length_eq_zero_iff.1 (by simp at this;omega);subst this;simp [nmB] at hn)
  have h4':(s.size:Int)<4:=by omega
  go_enter Tryz.func141,Tryz.ntmps141
  go_wp2;refine bodyPost_ret (v:=.tuple #[.string ⟨#[]⟩,.int .i64 0,.bool false]) (by simp [results,Tryz.results141,go_sem]) rfl ?_;exact tSplit_mk EE.out HB0.out
 ·obtain⟨m,hm⟩:∃ m,s.size=m+3:=⟨s.size - 3,by omega⟩;have hL:=last3 s m hm (by omega) (by omega) (by omega);obtain⟨t,ht⟩:∃ t,s.extract 0 m=t:=⟨_,rfl⟩;have hts:t.size≤140737488351232:=(by rw [←ht];simp;omega);have hm0:m<s.size:=(by omega);have hm1:m+1<s.size:=(by omega);have hm2:m+2<s.size:=(by omega);have EV:Hid (elmB s.data.toList=(decide (s[m+2]=93)&&(decide (s[m]=91)&&(decide (48≤s[m+1].toNat∧s[m+1].toNat≤55)&&nmB t.data.toList)))):=Lh (by rw [hL,elm_last,ht]);have NC:Hid (∀ W,Calls Tryz.prog 63 #[.string t] W (tBool (nmB t.data.toList) W)):=(Lh fun W=>nameR_any t W hts);have i1:((s.size:Int) - 1).toNat=m+2:=(by omega);have i2:((s.size:Int) - 2).toNat=m+1:=(by omega);have i3:((s.size:Int) - 3).toNat=m:=(by omega);have j1:(s.size:Int) - 1<(s.size:Int):=(by omega);have j2:(s.size:Int) - 2<(s.size:Int):=(by omega);have j3:(s.size:Int) - 3<(s.size:Int):=(by omega);have h4':¬ (s.size:Int)<4:=(by omega);clear hL;by_cases g1:(s[m+2].toNat:Int)=93
  ·by_cases g2:(s[m].toNat:Int)=91
   ·have s1:s[m+2]=93:=UInt8.toNat_inj.1 (by show s[m+2].toNat=93;omega);have s2:s[m]=91:=UInt8.toNat_inj.1 (by show s[m].toNat=91;omega);have EV2:Hid (elmB s.data.toList=(decide (48≤s[m+1].toNat∧s[m+1].toNat≤55)&&nmB t.data.toList)):=Lh (by rw [EV.out,decide_eq_true s1,decide_eq_true s2];rfl);clear s1 s2 EV;obtain⟨d,hd⟩:∃ d:Nat,s[m+1].toNat=d:=⟨_,rfl⟩;have hd2:(d:Int)≤255:=(by have:=s[m+1].toNat_lt;omega);rw [hd] at EV2;by_cases g3:(48:Int)≤d
    ·by_cases g4:(d:Int)≤55
     ·have EV3:Hid (elmB s.data.toList=nmB t.data.toList):=Lh (by rw [EV2.out,decide_eq_true ⟨by omega,by omega⟩];rfl);clear EV2;generalize nmB t.data.toList=q at *
      cases q
      ·go_enter Tryz.func141,Tryz.ntmps141
       go_wp2_with (go_at_call 63;((with_reducible refine (NC.out _).mono ?_);rintro e w1 ⟨rfl,hb⟩;have HB1:=Lh hb;clear hb))
       refine bodyPost_ret (v:=.tuple #[.string ⟨#[]⟩,.int .i64 0,.bool false]) (by simp [results,Tryz.results141,go_sem]) rfl ?_;exact tSplit_mk EV3.out.symm HB1.out
      ·go_enter Tryz.func141,Tryz.ntmps141
       go_wp2_with (go_at_call 63;((with_reducible refine (NC.out _).mono ?_);rintro e w1 ⟨rfl,hb⟩;have HB1:=Lh hb;clear hb))
       refine bodyPost_ret (v:=.tuple #[.string t,.int .i64 ((d:Int) - 48),.bool true]) (by simp [results,Tryz.results141,go_sem]) rfl ?_;exact tSplit_mk EV3.out.symm HB1.out
     ·have EE:Hid (false=elmB s.data.toList):=Lh (by rw [EV2.out,decide_eq_false (by omega)];rfl);clear EV2 NC
      go_enter Tryz.func141,Tryz.ntmps141
      go_wp2;refine bodyPost_ret (v:=.tuple #[.string ⟨#[]⟩,.int .i64 0,.bool false]) (by simp [results,Tryz.results141,go_sem]) rfl ?_;exact tSplit_mk EE.out HB0.out
    ·have EE:Hid (false=elmB s.data.toList):=Lh (by rw [EV2.out,decide_eq_false (by omega)];rfl);clear EV2 NC
     go_enter Tryz.func141,Tryz.ntmps141
     go_wp2;refine bodyPost_ret (v:=.tuple #[.string ⟨#[]⟩,.int .i64 0,.bool false]) (by simp [results,Tryz.results141,go_sem]) rfl ?_;exact tSplit_mk EE.out HB0.out
   ·have g2':((s[m].toNat:Int) != 91)=true:=(by rw [bne_iff_ne];exact g2);have EE:Hid (false=elmB s.data.toList):=Lh (by
     rw [EV.out,decide_eq_false (fun h:s[m]=91=>by rw [h] at g2;exact g2 rfl)];simp)
    clear g2 EV NC
    go_enter Tryz.func141,Tryz.ntmps141
    go_wp2;refine bodyPost_ret (v:=.tuple #[.string ⟨#[]⟩,.int .i64 0,.bool false]) (by simp [results,Tryz.results141,go_sem]) rfl ?_;exact tSplit_mk EE.out HB0.out
  ·have g1':((s[m+2].toNat:Int) != 93)=true:=(by rw [bne_iff_ne];exact g1);have EE:Hid (false=elmB s.data.toList):=Lh (by
    rw [EV.out,decide_eq_false (by intro h;rw [h] at g1;exact g1 rfl)];rfl)
   clear g1 EV NC
   go_enter Tryz.func141,Tryz.ntmps141
   go_wp2;refine bodyPost_ret (v:=.tuple #[.string ⟨#[]⟩,.int .i64 0,.bool false]) (by simp [results,Tryz.results141,go_sem]) rfl ?_;exact tSplit_mk EE.out HB0.out
theorem isVarR_any (s:ByteArray) (w:World) (hs:s.size≤140737488351232):Calls Tryz.prog 125 #[.string s] w (tBool (varB s.data.toList) w):=by
 have SC:=Lh (split_any s w hs);have NC:Hid (∀ W,Calls Tryz.prog 63 #[.string s] W (tBool (nmB s.data.toList) W)):=(Lh fun W=>nameR_any s W hs);have EE:Hid (varB s.data.toList=(elmB s.data.toList||nmB s.data.toList)):=Lh rfl;generalize varB s.data.toList=v at *
 generalize elmB s.data.toList=x at *
 generalize nmB s.data.toList=y at *
 cases x
 all_goals
  go_enter Tryz.func125,Tryz.ntmps125
  go_wp2_with (first
   |(go_at_call 141;((with_reducible refine SC.out.mono ?_);rintro e w1 ⟨t,i,rfl,hb⟩;have HB1:=Lh hb;clear hb))
   |(go_at_call 63;((with_reducible refine (NC.out _).mono ?_);rintro e w2 ⟨rfl,hb⟩;have HB2:=Lh (HB1.out.then_ hb);clear hb)))
  go_ret;first
   | exact tBool_mk (by rw [EE.out];rfl) HB2.out
   | exact tBool_mk (by rw [EE.out];rfl) HB1.out
end ExW
end Go.Proofs.YtihnejaopejbgaaGreatDoor
