/-
  Laws that the card uses; no conditions beside those that each states (CtPub CtOpen).
-/
import Derived.Test.YtihnejaopejbgaaGreatDoorP38
set_option maxRecDepth 100000
set_option maxHeartbeats 16000000
namespace Go.Proofs.YtihnejaopejbgaaGreatDoor
namespace CtW
open Go Go.RowKit Go.Shelf NumM LexW ExW ItW LexM ExM EtM EtW ItM CtM
open ClM (Fld fieldE validE validE_zero Val bad emp)
open ClW (At RowA Lo CV valid_any)
def itemsT (l:List It) (k:Int):List UInt8:=if k<0∨32<k∨validI l≠0 then [] else txL (liL k.toNat l)
theorem itemsP_any (w0:World) (l:List It) (v:Value) (hx:ItsA w0.heap.size w0 v l) (hz:bzL l≤2000000) (ht:TabE w0) (k:Int) (W:World) (hW:Below w0.heap.size w0 W) :
  Calls Tryz.prog 13 #[v,.int .i64 k] W (tS (itemsT l k) W):=by
 have VC:Hid (∀ W2,Below w0.heap.size w0 W2→Calls Tryz.prog 27 #[v] W2 (tInt (validI l) W2)):=(Lh fun W2 h2=>valid_of hx hz ht.base h2);have HX:=Lh hx;have HT:=Lh ht;have HW:=Lh hW;by_cases h1:k<0
 ·have e:itemsT l k=[]:=(by unfold itemsT;rw [if_pos (.inl h1)]);rw [e];have d1:decide (k<0)=true:=decide_eq_true h1;obtain⟨p,cap,_,rfl,_⟩:=hx.form;clear hx ht hW VC HX e hz
  go_enter Tryz.func13,Tryz.ntmps13
  go_wp2;go_ret;exact⟨rfl,Below.refl _ _⟩
 ·have d1:decide (k<0)=false:=decide_eq_false h1;by_cases h2:32<k
  ·have e:itemsT l k=[]:=(by unfold itemsT;rw [if_pos (.inr (.inl h2))]);rw [e];have d2:decide (32<k)=true:=decide_eq_true h2;obtain⟨p,cap,_,rfl,_⟩:=hx.form;clear hx ht hW VC HX e hz
   go_enter Tryz.func13,Tryz.ntmps13
   go_wp2;go_ret;exact⟨rfl,Below.refl _ _⟩
  ·have d2:decide (32<k)=false:=decide_eq_false h2;obtain⟨n,hn⟩:∃ n:Nat,k=(n:Int):=⟨k.toNat,by omega⟩;have hn32:n≤32:=(by omega);by_cases h3:validI l=0
   ·have e:itemsT l k=txL (liL n l):=(by unfold itemsT;rw [if_neg (by rintro (h | h | h);(· exact h1 h);(· exact h2 h);(· exact h h3)),hn];rfl);have hlen:=li_len h3 hz (k:=n) (by omega);obtain⟨hvl,h64⟩:=valid_vl h3;rw [e];rw [h3] at VC;subst hn;have IC:Hid (∀ W2,Below w0.heap.size w0 W2→Calls Tryz.prog 28 #[.pointer (some ⟨W2.heap.size,0,none⟩),v,.int .i64 n] (W2.alloc (.cells #[.pointer none,.slice none 0 0] 63)) (tPg W2.heap.size W2.heap.size (txL (liL n l)) (.tuple #[]) (W2.alloc (.cells #[.pointer none,.slice none 0 0] 63)))):=Lh fun W2 h2=>by
     have:=items_any w0 HT.out l v W2.heap.size W2.heap.size n [] _ (st_new h2) HX.out (by omega) (by rw [List.length_nil];omega) hvl (rs_bz l hz);rw [List.nil_append] at this;exact this
    obtain⟨p,cap,_,rfl,_⟩:=hx.form;generalize txL (liL n l)=T at *
    generalize l.length=K at *
    clear hx ht hW e h3 hvl h64 hz hlen HX h1 h2
    go_enter Tryz.func13,Tryz.ntmps13
    go_wp2_with (first
     |(go_at_call 27;((with_reducible refine (VC.out _ HW.out).mono ?_);rintro e w2 ⟨rfl,hb⟩;have HW2:=Lh (HW.out.then_ hb);have HB2:=Lh hb;clear hb))
     |(go_at_call 28;((with_reducible refine (IC.out _ HW2.out).mono ?_);rintro e w3 ⟨rfl,hp,hk3⟩;have HP:=Lh hp;have HK:=Lh hk3;have HSZ:w2.heap.size≤w3.heap.size:=(by have:=hk3.size;simp at this;omega);clear hp hk3))
     |(go_at_call 29;((with_reducible refine (str_any _ _ T w3 HP.out HSZ).mono ?_);rintro e w4 ⟨rfl,hb⟩;have HB4:=Lh hb;clear hb)))
    go_ret;exact⟨rfl,HB2.out.then_ (((ba _ _).trans HK.out.low).trans HB4.out)⟩
   ·have e:itemsT l k=[]:=(by unfold itemsT;rw [if_pos (.inr (.inr h3))]);rw [e];have f1:(validI l != 0)=true:=(by simpa using h3);obtain⟨p,cap,_,rfl,_⟩:=hx.form;generalize validI l=E at *
    generalize l.length=K at *
    clear hx ht hW e h3 hz HX h1 h2 hn
    go_enter Tryz.func13,Tryz.ntmps13
    go_wp2_with (go_at_call 27;((with_reducible refine (VC.out _ HW.out).mono ?_);rintro e w2 ⟨rfl,hb⟩;have HB2:=Lh hb;clear hb))
    go_ret;exact⟨rfl,HB2.out⟩
end CtW
namespace CtO
open Go Go.RowKit Go.ChangeShapes Go.WideShapes Go.ChangeAt NumM LexM LexW ExM ExW ItM ItW CtM CtW
open ClW (add_at pick_list weights_in)
open ClM (Fld)
open ClW (At RowA Lo CV)
theorem open_items {H:Type} {enc:TypeId × Value→H} {W:World} {r:Reach} {b0:Nat} {v:Value} {d:DataW H} {p:List MemPlace} (hval:Value.okWide Tryz.prog W r b0 26 v)
  (h:DataW.Trod enc Tryz.prog W 0 (fun _=>true) true 26 v d p) (hlt:∀ x∈p,x.block<W.heap.size) (hw:∀ n∈d.weights Tryz.prog 26,n≤140737488351232) :
  ∃ l:List It,ItsA W.heap.size W v l∧bzL l≤Rows.uptoBulk d:=by
 obtain⟨a0,len0,cap0,rfl⟩:=okWide_slice Tryz.underlying26 hval;obtain⟨fuel,hf⟩:=h;exact open_itemsF fuel _ (d,p) (by simpa [Value.cells] using hf) hlt hw
end CtO
end Go.Proofs.YtihnejaopejbgaaGreatDoor
