/-
  Laws that the card uses; no conditions beside those that each states (CtLawB).
-/
import Derived.Test.YtihnejaopejbgaaGreatDoorP56
set_option maxRecDepth 100000
set_option maxHeartbeats 16000000
namespace Go.Proofs.YtihnejaopejbgaaGreatDoor
namespace CtL
open Go Go.RowKit Go.Shelf NumM LexW ExW ItW LexM ExM EtM EtW ItM CtM CtW CtR
theorem prints_law (w:World) (k:Kl) (pf:Option Addr) (cf:Nat) (pk:Option Addr) (ck:Nat) (h:KA w.heap.size w pf cf pk ck k) (hz:bzK k≤2000000) (ht:TabE w) :
  Calls Tryz.prog 5 #[.agg #[.string k.nm,.string k.par,.slice pf k.fs.length cf,.slice pk k.bs.length ck]] w (tBool true w):=by
 have AC:Hid (∀ W,Below w.heap.size w W→Calls Tryz.prog 12 #[] W (tBool true W)):=(Lh fun W hW=>awake_any W (ht.later hW));have PC:Hid (∀ W,Below w.heap.size w W→Calls Tryz.prog 15 #[.agg #[.string k.nm,.string k.par,.slice pf k.fs.length cf,.slice pk k.bs.length ck]] W (tS (klT k) W)):=(Lh fun W hW=>printP_any w k _ _ _ _ h hz ht W hW);have RC:Hid (∀ W,Below w.heap.size w W→Calls Tryz.prog 16 #[.agg #[.string k.nm,.string k.par,.slice pf k.fs.length cf,.slice pk k.bs.length ck]] W (tS (klT k) W)):=(Lh fun W hW=>printKR_any w k _ _ _ _ h hz ht W hW);clear h hz ht;generalize klT k=T at *
 generalize k.nm=nm at *
 generalize k.par=par at *
 generalize k.fs.length=nf at *
 generalize k.bs.length=nk at *
 have F1:Bx (w.alloc (.cells #[.string nm,.string par,.slice pf nf cf,.slice pk nk ck] 32)) w.heap.size 32 [.string nm,.string par,.slice pf nf cf,.slice pk nk ck]:=Bx.new _ _ _;have B0:=ba w (.cells #[.string nm,.string par,.slice pf nf cf,.slice pk nk ck] 32);obtain⟨W0,hW0⟩:∃ W0,w.alloc (.cells #[.string nm,.string par,.slice pf nf cf,.slice pk nk ck] 32)=W0:=⟨_,rfl⟩;rw [hW0] at F1 B0;have HF:=Lh F1;have HB:=Lh B0;have HX:=Lh (Below.refl W0.heap.size W0);have hlt0:=F1.blk.lt;have c0:=F1.blk.c 0 _ rfl;have c1:=F1.blk.c 1 _ rfl;have c2:=F1.blk.c 2 _ rfl;have c3:=F1.blk.c 3 _ rfl;clear F1 B0
 go_enter Tryz.func5,Tryz.ntmps5
 go_wp2
 go_region_law (go_simp;first
  |(go_at_call 15;((first | (with_reducible refine (PC.out _ (HB.out.then_ HX.out)).mono ?_) | (with_reducible refine (PC.out _ (HB.out.then_ (HX.out.drew))).mono ?_));rintro e w2 ⟨rfl,hb⟩;have HX:=Lh (by first | exact HX.out.then_ hb | exact HX.out.drew.then_ hb);clear c0 c1 c2 c3;have X:=HF.out.blk.stay HX.out;have c0:=X.c 0 _ rfl;have c1:=X.c 1 _ rfl;have c2:=X.c 2 _ rfl;have c3:=X.c 3 _ rfl;clear X hb))
  |(go_at_call 16;((first | (with_reducible refine (RC.out _ (HB.out.then_ HX.out)).mono ?_) | (with_reducible refine (RC.out _ (HB.out.then_ (HX.out.drew))).mono ?_));rintro e w2 ⟨rfl,hb⟩;have HX:=Lh (by first | exact HX.out.then_ hb | exact HX.out.drew.then_ hb);clear c0 c1 c2 c3;have X:=HF.out.blk.stay HX.out;have c0:=X.c 0 _ rfl;have c1:=X.c 1 _ rfl;have c2:=X.c 2 _ rfl;have c3:=X.c 3 _ rfl;clear X hb))
  |(go_at_call 12;((first | (with_reducible refine (AC.out _ (HB.out.then_ HX.out)).mono ?_) | (with_reducible refine (AC.out _ (HB.out.then_ (HX.out.drew))).mono ?_));rintro e w2 ⟨rfl,hb⟩;have HX:=Lh (by first | exact HX.out.then_ hb | exact HX.out.drew.then_ hb);clear c0 c1 c2 c3;have X:=HF.out.blk.stay HX.out;have c0:=X.c 0 _ rfl;have c1:=X.c 1 _ rfl;have c2:=X.c 2 _ rfl;have c3:=X.c 3 _ rfl;clear X hb)))
 all_goals
  go_wp2;go_ret;exact⟨rfl,HB.out.then_ HX.out⟩
end CtL
end Go.Proofs.YtihnejaopejbgaaGreatDoor
