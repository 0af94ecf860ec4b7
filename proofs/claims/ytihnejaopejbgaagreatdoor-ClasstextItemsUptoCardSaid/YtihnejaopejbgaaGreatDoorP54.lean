/-
  Laws that the card uses; no conditions beside those that each states (CtRefI CtLawA).
-/
import Derived.Test.YtihnejaopejbgaaGreatDoorP41
import Derived.Test.YtihnejaopejbgaaGreatDoorP50
import Derived.Test.YtihnejaopejbgaaGreatDoorP51
set_option maxRecDepth 100000
set_option maxHeartbeats 16000000
namespace Go.Proofs.YtihnejaopejbgaaGreatDoor
namespace CtR
open Go Go.RowKit Go.Shelf NumM LexW ExW ItW LexM ExM EtM EtW ItM CtM CtW
theorem itemsR_any (w0:World) (l:List It) (v:Value) (hx:ItsA w0.heap.size w0 v l) (hz:bzL l≤2000000) (ht:TabE w0) (k:Int) (W:World) (hW:Below w0.heap.size w0 W) :
  Calls Tryz.prog 14 #[v,.int .i64 k] W (tS (itemsT l k) W):=by
 have VC:Hid (∀ W2,Below w0.heap.size w0 W2→Calls Tryz.prog 22 #[v] W2 (tInt (validI l) W2)):=Lh fun W2 h2=>by
  have h3:=iszs_bz l;exact itemValidR_any l v W2 ((hx.under h2).wide h2.size) (by omega) (rs_bz l (by omega))
 have HW:=Lh hW;have EI:Hid (itemsT l k=if k<0∨32<k∨validI l≠0 then [] else txL (liL k.toNat l)):=Lh rfl;by_cases hv:validI l=0
 ·rw [hv] at VC;by_cases h1:k<0
  ·rw [EI.out,if_pos (.inl h1)];have d1:decide (k<0)=true:=decide_eq_true h1;obtain⟨p,cap,_,rfl,_⟩:=hx.form;clear hx hz ht hW EI hv
   go_enter Tryz.func14,Tryz.ntmps14
   go_wp2_with (go_at_call 22;((with_reducible refine (VC.out _ HW.out).mono ?_);rintro e w2 ⟨rfl,hb⟩;have HX:=Lh hb;clear hb))
   go_ret;exact⟨rfl,HX.out⟩
  ·have d1:decide (k<0)=false:=decide_eq_false h1;by_cases h2:32<k
   ·rw [EI.out,if_pos (.inr (.inl h2))];have d2:decide (32<k)=true:=decide_eq_true h2;obtain⟨p,cap,_,rfl,_⟩:=hx.form;clear hx hz ht hW EI hv
    go_enter Tryz.func14,Tryz.ntmps14
    go_wp2_with (go_at_call 22;((with_reducible refine (VC.out _ HW.out).mono ?_);rintro e w2 ⟨rfl,hb⟩;have HX:=Lh hb;clear hb))
    go_ret;exact⟨rfl,HX.out⟩
   ·have d2:decide (32<k)=false:=decide_eq_false h2;obtain⟨n,rfl⟩:∃ n:Nat,k=(n:Int):=⟨k.toNat,by omega⟩;obtain⟨hvl,h64⟩:=valid_vl hv;have hll:=li_len hv hz (k:=n) (by omega);have LC:Hid (∀ W2,Below w0.heap.size w0 W2→Calls Tryz.prog 30 #[v,.int .i64 n] W2 (tS (txL (liL n l)) W2)):=(Lh fun W2 h=>lines_any w0 ht l _ n W2 h hx (by omega) (by omega) hvl (rs_bz l hz));rw [EI.out,if_neg (by omega),Int.toNat_natCast];obtain⟨p,cap,_,rfl,_⟩:=hx.form;clear hx hz ht hW EI hv hvl h64 hll;generalize txL (liL n l)=T at *
    go_enter Tryz.func14,Tryz.ntmps14
    go_wp2_with (first
     |(go_at_call 22;((with_reducible refine (VC.out _ HW.out).mono ?_);rintro e w2 ⟨rfl,hb⟩;have HX:=Lh hb;clear hb))
     |(go_at_call 30;((with_reducible refine (LC.out _ (HW.out.then_ HX.out)).mono ?_);rintro e w3 ⟨rfl,hb⟩;have HX3:=Lh (HX.out.then_ hb);clear hb)))
    go_ret;exact⟨rfl,HX3.out⟩
 ·rw [EI.out,if_pos (.inr (.inr hv))];obtain⟨E,hE⟩:∃ E,validI l=E:=⟨_,rfl⟩;rw [hE] at VC hv;have f1:(E != 0)=true:=(by simpa using hv);obtain⟨p,cap,_,rfl,_⟩:=hx.form;clear hx hz ht hW EI hv hE
  go_enter Tryz.func14,Tryz.ntmps14
  go_wp2_with (go_at_call 22;((with_reducible refine (VC.out _ HW.out).mono ?_);rintro e w2 ⟨rfl,hb⟩;have HX:=Lh hb;clear hb))
  go_ret;exact⟨rfl,HX.out⟩
end CtR
namespace CtL
open Go Go.RowKit Go.Shelf NumM LexW ExW ItW LexM ExM EtM EtW ItM CtM CtW CtR
theorem items_law (w:World) (l:List It) (v:Value) (k:Int) (h:ItsA w.heap.size w v l) (hz:bzL l≤2000000) (ht:TabE w) :
  Calls Tryz.prog 4 #[v,.int .i64 k] w (tBool true w):=by
 have AC:Hid (∀ W,Below w.heap.size w W→Calls Tryz.prog 12 #[] W (tBool true W)):=(Lh fun W hW=>awake_any W (ht.later hW));have PC:Hid (∀ W,Below w.heap.size w W→Calls Tryz.prog 13 #[v,.int .i64 k] W (tS (itemsT l k) W)):=(Lh fun W hW=>itemsP_any w l v h hz ht k W hW);have RC:Hid (∀ W,Below w.heap.size w W→Calls Tryz.prog 14 #[v,.int .i64 k] W (tS (itemsT l k) W)):=(Lh fun W hW=>itemsR_any w l v h hz ht k W hW);obtain⟨p,cap,_,rfl,_⟩:=h.form;generalize itemsT l k=T at *
 clear h hz ht
 go_enter Tryz.func4,Tryz.ntmps4
 go_wp2_with (first
  |(go_at_call 13;((with_reducible refine (PC.out _ (Below.refl _ _)).mono ?_);rintro e w2 ⟨rfl,hb⟩;have HX1:=Lh ((Below.refl _ _).then_ hb);clear hb))
  |(go_at_call 14;((with_reducible refine (RC.out _ HX1.out).mono ?_);rintro e w3 ⟨rfl,hb⟩;have HX2:=Lh (HX1.out.then_ hb);clear hb))
  |(go_at_call 12;((with_reducible refine (AC.out _ HX2.out).mono ?_);rintro e w4 ⟨rfl,hb⟩;have HX4:=Lh (HX2.out.then_ hb);clear hb)))
 go_ret;exact⟨rfl,HX4.out⟩
end CtL
end Go.Proofs.YtihnejaopejbgaaGreatDoor
