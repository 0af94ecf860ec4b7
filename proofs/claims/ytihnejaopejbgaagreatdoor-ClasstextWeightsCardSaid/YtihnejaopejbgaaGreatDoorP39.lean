/-
  Laws that the card uses; no conditions beside those that each states (CtLawA CtOpen).
-/
import Derived.Test.YtihnejaopejbgaaGreatDoorP30
import Derived.Test.YtihnejaopejbgaaGreatDoorP36
set_option maxRecDepth 100000
set_option maxHeartbeats 16000000
namespace Go.Proofs.YtihnejaopejbgaaGreatDoor
namespace CtL
open Go Go.RowKit Go.Shelf NumM LexW ExW ItW LexM ExM EtM EtW ItM CtM CtW CtR
theorem wt_take {N:Nat} {w:World} {p:Option Addr} {n cap:Nat} {l:List Wt} (h:WtA N w (.slice p n cap) l) (m:Nat) (hm:m≤l.length):WtA N w (.slice p m cap) (l.take m):=by
 obtain⟨p',cap',e,h1,h2,h4⟩:=h;obtain⟨rfl,_,rfl⟩:p=p'∧True∧cap=cap':=(by simp at e;exact⟨e.1,trivial,e.2.2⟩);have hl:(l.take m).length=m:=(by rw [List.length_take];omega);exact⟨p,cap,by rw [hl],by rw [hl];omega,by rw [hl];omega,fun h0=>by
  rw [hl] at h0;obtain⟨b,off,e,hb,hc⟩:=h4 (by omega);refine⟨b,off,e,hb,fun i t ht=>hc i t ?_⟩;rw [List.getElem?_take] at ht;split at ht
  ·exact ht
  ·cases ht⟩
theorem weights_law (w:World) (l:List Wt) (v:Value) (h:WtA w.heap.size w v l) (hb:∀ t∈l,okI t) (ht:TabE w) :
  Calls Tryz.prog 3 #[v] w (tBool true w):=by
 obtain⟨p,cap,rfl,h1,hcap,hx⟩:=h;have AC:Hid (∀ W,Below w.heap.size w W→Calls Tryz.prog 12 #[] W (tBool true W)):=(Lh fun W hW=>awake_any W (ht.later hW));obtain⟨n,hn⟩:∃ n,l.length=n:=⟨_,rfl⟩;have h0:WtA w.heap.size w (.slice p l.length cap) l:=⟨p,cap,rfl,h1,hcap,hx⟩;rw [hn] at h0 hcap ⊢;by_cases hm:n≤40
 ·have h2:=wt_take h0 n (by omega);have hmin:min (n:Int) 40=n:=(by omega);have hge:n≤cap:=(by omega);have PC:Hid (∀ W,Below w.heap.size w W→Calls Tryz.prog 10 #[.slice p n cap] W (tS (wtsT (l.take n)) W)):=(Lh fun W hW=>weights_any _ _ _ W (h2.under hW) hW.size (fun t hm=>hb t (List.mem_of_mem_take hm)) (by rw [List.length_take];omega) (ht.later hW).pow);have RC:Hid (∀ W,Below w.heap.size w W→Calls Tryz.prog 11 #[.slice p n cap] W (tS (wtsT (l.take n)) W)):=(Lh fun W hW=>weightsR_any _ _ _ W (h2.under hW) hW.size (fun t hm=>hb t (List.mem_of_mem_take hm)) (by rw [List.length_take];omega));generalize wtsT (l.take n)=T at *
  clear h0 h2 hn ht hx hb
  go_enter Tryz.func3,Tryz.ntmps3
  go_wp2_with (first
   |(go_at_call 10;((with_reducible refine (PC.out _ (Below.refl _ _)).mono ?_);rintro e w2 ⟨rfl,hb⟩;have HX1:=Lh ((Below.refl _ _).then_ hb);clear hb))
   |(go_at_call 11;((with_reducible refine (RC.out _ HX1.out).mono ?_);rintro e w3 ⟨rfl,hb⟩;have HX2:=Lh (HX1.out.then_ hb);clear hb))
   |(go_at_call 12;((with_reducible refine (AC.out _ HX2.out).mono ?_);rintro e w4 ⟨rfl,hb⟩;have HX4:=Lh (HX2.out.then_ hb);clear hb)))
  go_ret;exact⟨rfl,HX4.out⟩
 ·have h2:=wt_take h0 40 (by omega);have hmin:min (n:Int) 40=40:=(by omega);have hge:40≤cap:=(by omega);have PC:Hid (∀ W,Below w.heap.size w W→Calls Tryz.prog 10 #[.slice p 40 cap] W (tS (wtsT (l.take 40)) W)):=(Lh fun W hW=>weights_any _ _ _ W (h2.under hW) hW.size (fun t hm=>hb t (List.mem_of_mem_take hm)) (by rw [List.length_take];omega) (ht.later hW).pow);have RC:Hid (∀ W,Below w.heap.size w W→Calls Tryz.prog 11 #[.slice p 40 cap] W (tS (wtsT (l.take 40)) W)):=(Lh fun W hW=>weightsR_any _ _ _ W (h2.under hW) hW.size (fun t hm=>hb t (List.mem_of_mem_take hm)) (by rw [List.length_take];omega));generalize wtsT (l.take 40)=T at *
  clear h0 h2 hn ht hx hb
  go_enter Tryz.func3,Tryz.ntmps3
  go_wp2_with (first
   |(go_at_call 10;((with_reducible refine (PC.out _ (Below.refl _ _)).mono ?_);rintro e w2 ⟨rfl,hb⟩;have HX1:=Lh ((Below.refl _ _).then_ hb);clear hb))
   |(go_at_call 11;((with_reducible refine (RC.out _ HX1.out).mono ?_);rintro e w3 ⟨rfl,hb⟩;have HX2:=Lh (HX1.out.then_ hb);clear hb))
   |(go_at_call 12;((with_reducible refine (AC.out _ HX2.out).mono ?_);rintro e w4 ⟨rfl,hb⟩;have HX4:=Lh (HX2.out.then_ hb);clear hb)))
  go_ret;exact⟨rfl,HX4.out⟩
end CtL
namespace CtO
open Go Go.RowKit Go.ChangeShapes Go.WideShapes Go.ChangeAt NumM LexM LexW ExM ExW ItM ItW CtM CtW
open ClW (add_at pick_list weights_in)
open ClM (Fld)
open ClW (At RowA Lo CV)
theorem open_weights {H:Type} {enc:TypeId × Value→H} {W:World} {r:Reach} {b0:Nat} {v:Value} {d:DataW H} {p:List MemPlace} (hval:Value.okWide Tryz.prog W r b0 22 v)
  (h:DataW.Trod enc Tryz.prog W 0 (fun _=>true) true 22 v d p) (hlt:∀ x∈p,x.block<W.heap.size) (hw:∀ n∈d.weights Tryz.prog 22,n≤140737488351232) :
  ∃ l:List Wt,WtA W.heap.size W v l∧∀ t∈l,okI t:=by
 obtain⟨a0,len0,cap0,rfl⟩:=okWide_slice Tryz.underlying22 hval;obtain⟨fuel,hf⟩:=h;obtain⟨l,h1,h2,_⟩:=open_wts fuel _ (d,p) (by simpa [Value.cells] using hf) hlt hw;exact⟨l,h1,h2⟩
end CtO
end Go.Proofs.YtihnejaopejbgaaGreatDoor
