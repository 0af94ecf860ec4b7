/-
  Laws that the card uses; no conditions beside those that each states (CtAwake EtLaid ClLaid CtOpen).
-/
import Derived.Test.YtihnejaopejbgaaGreatDoorCards
import Derived.Test.YtihnejaopejbgaaGreatDoorTie
import Derived.ProofKit
import Derived.LaidMore
import Derived.OpenShut
import Derived.Stop.Joined
import Derived.Stop.LaidErr
import Derived.SizedLaws
import Derived.Carry
import Derived.Deep.DeepHandedRow
import Derived.Deep.DeepWitnessRowRef
import Derived.Deep.Slices
import Derived.Test.YtihnejaopejbgaaGreatDoorP33
set_option maxRecDepth 100000
set_option maxHeartbeats 16000000
namespace Go.Proofs.YtihnejaopejbgaaGreatDoor
namespace CtW
open Go Go.RowKit Go.Shelf NumM LexW ExW ItW LexM ExM EtM EtW ItM CtM
theorem awake_any (w:World) (ht:TabE w):Calls Tryz.prog 12 #[] w (tBool true w):=by
 have hb:=AL_below (awL w.heap.size) w;have WC0:∀ W,Below (AL w (awL w.heap.size)).heap.size (AL w (awL w.heap.size)) W→Calls Tryz.prog 10 #[.slice (some ⟨w.heap.size+7,0,none⟩) 2 2] W (fun e w'=>e=.returned (.string ⟨#[48,32,58,61,32,50,44,32,49,32,46,46,32,51,32,58,47,32,54]⟩)∧Below W.heap.size W w'):=fun W h=>by
  have h1:=weights_any awW _ _ W ((aw_wt w).under h) h.size (fun t hm=>by
   simp only [awW,List.mem_cons,List.not_mem_nil,or_false] at hm;rcases hm with rfl | rfl<;>exact⟨⟨by decide,by decide⟩,⟨by decide,by decide⟩,⟨by decide,by decide⟩⟩) (by decide) ((ht.later hb).later h).pow
  rw [aw_wtT] at h1;exact h1
 have PC0:∀ W,Below (AL w (awL w.heap.size)).heap.size (AL w (awL w.heap.size)) W→Calls Tryz.prog 15 #[.agg #[.string ⟨#[112]⟩,.string ⟨#[98,97,115,101]⟩,.slice (some ⟨w.heap.size+3,0,none⟩) 1 1,.slice (some ⟨w.heap.size+5,0,none⟩) 1 1]] W (fun e w'=>e=.returned (.string ⟨#[99,108,97,115,115,32,112,32,101,120,116,101,110,100,115,32,98,97,115,101,32,123,10,32,32,32,32,114,97,110,100,32,107,105,110,100,32,58,32,50,59,10,32,32,32,32,99,111,110,115,116,114,97,105,110,116,32,108,101,103,97,108,32,123,10,32,32,32,32,32,32,32,32,107,105,110,100,32,60,32,51,59,10,32,32,32,32,125,10,125,10]⟩)∧Below W.heap.size W w'):=fun W h=>by
  have h1:=printP_any _ awK _ _ _ _ (aw_k w) (by decide) (ht.later hb) W h;rw [aw_klT] at h1;exact h1
 have X0:=AL_blk ((awL w.heap.size).take 1) w 0 _ rfl;have X2:=AL_blk ((awL w.heap.size).take 4) w 2 _ rfl;have X6:=AL_blk (awL w.heap.size) w 6 _ rfl;simp only [awL,kindB,List.take,AL,Nat.add_zero] at X0 X2 X6 hb WC0 PC0;have a0:=X0.c 0 _ rfl;have a1:=X0.c 1 _ rfl;have a2:=X0.c 2 _ rfl;have a3:=X0.c 3 _ rfl;have i0:=X2.c 0 _ rfl;have i1:=X2.c 1 _ rfl;have i2:=X2.c 2 _ rfl;have i3:=X2.c 3 _ rfl;have i4:=X2.c 4 _ rfl;have i5:=X2.c 5 _ rfl;have i6:=X2.c 6 _ rfl;have i7:=X2.c 7 _ rfl;have i8:=X2.c 8 _ rfl;have i9:=X2.c 9 _ rfl;have i10:=X2.c 10 _ rfl;have i11:=X2.c 11 _ rfl;generalize hW8:World.alloc _ (.cells #[.int .i64 0,.int .i64 0,.int .i64 2,.bool true,.int .i64 1,.int .i64 3,.int .i64 6,.bool false] 45)=w8 at *
 have WC:=Lh WC0;have PC:=Lh PC0;have HB:=Lh hb;have H6:=Lh X6;clear WC0 PC0 hb X6 X0 X2 ht
 go_enter Tryz.func12,Tryz.ntmps12
 go_wp2_with (first
  |(go_at_call 10;((with_reducible refine (WC.out _ (Below.refl _ _)).mono ?_);rintro e v1 ⟨rfl,hx⟩;have HX:=Lh hx;have X:=H6.out.stay hx;have k0:=X.c 0 _ rfl;have k1:=X.c 1 _ rfl;have k2:=X.c 2 _ rfl;have k3:=X.c 3 _ rfl;clear X hx))
  |(go_at_call 15;((with_reducible refine (PC.out _ HX.out).mono ?_);rintro e v2 ⟨rfl,hx⟩;have HX2:=Lh (HX.out.then_ hx);clear hx)))
 go_ret;exact⟨rfl,HB.out.then_ HX2.out⟩
end CtW
namespace EtW
open Go Go.RowKit Go.ChangeShapes Go.WideShapes Go.ChangeAt LexM LexW
def laidAll:List (String × DataW Unit):=Rows.classtextWeightsRow.laid
theorem own:ownKnob Tryz.prog.godebug=none:=by kernel_rfl
theorem tPow10:(Tryz.prog.globals[1]?).map (·.type)=some 176:=by kernel_rfl
theorem tRange:(Tryz.prog.globals[7]?).map (·.type)=some 76:=by kernel_rfl
theorem cellsU64:Tryz.prog.cellsOf 162=1:=by kernel_rfl
theorem cellsPow10:Tryz.prog.cellsOf 176=20:=by kernel_rfl
theorem cellsErr:Tryz.prog.cellsOf 214=1:=by kernel_rfl
theorem cellsStr:Tryz.prog.cellsOf 9=1:=by kernel_rfl
theorem star : "*" ++ "errors.errorString" = "*errors.errorString" := by decide
theorem rowErr (u : TypeId) (h : Tryz.prog.typeName? 3 u = some "*errors.errorString") : u = 212 :=
 typeName_ptr_named (nm := "errors.errorString") (by rw [star]; kernel_rfl) (by kernel_rfl) (by decide) u (by rw [star]; exact h)
theorem gBin : Tryz.prog.globalNamed "testbench/exprtext.binaries" = some 2 := by kernel_rfl
theorem tBinS:(Tryz.prog.globals[2]?).map (·.type)=some 193:=by kernel_rfl
theorem gPre : Tryz.prog.globalNamed "testbench/exprtext.prefixes" = some 3 := by kernel_rfl
theorem tPreS:(Tryz.prog.globals[3]?).map (·.type)=some 194:=by kernel_rfl
theorem cellsE:Tryz.prog.cellsOf 3=1∧Tryz.prog.cellsOf 9=1∧Tryz.prog.cellsOf 4=1∧Tryz.prog.cellsOf 180=4∧Tryz.prog.cellsOf 184=2:=by
 refine⟨?_,?_,?_,?_,?_⟩<;>kernel_rfl
theorem add_at' (b off k:Nat):(⟨b,off,none⟩:Addr).add k=⟨b,off+k,none⟩:=by
 unfold Addr.add;by_cases h:k=0
 ·subst h;simp
 ·simp [h]
abbrev encU:TypeId × Value→Unit:=fun _=>()
theorem row_bin {W:World} {fuel:Nat} {cs:List Value} {x:DataW Unit × List MemPlace} (hl:cs.length=4) (h:DataW.trod encU Tryz.prog W 0 (fun _=>true) false fuel 180 cs=some x) :
  ∃ (s:ByteArray) (k o:Int) (b:Bool),cs=[.string s,.int .i64 k,.int .i64 o,.bool b]∧x.1=.agg [.lit (.string s.data.toList),.lit (.int .i64 k),.lit (.int .i64 o),.lit (.bool b)]:=by
 obtain⟨k1,k2,k3,_,_⟩:=cellsE;obtain⟨xs,n,_,hx,_,hlen,hfd⟩:=DataW.trod_struct Tryz.underlying180 h;match cs,hl with
 | [c0,c1,c2,c3],_ =>
  match xs,hlen with
  | [y0,y1,y2,y3],_ =>
   have h0:DataW.trod encU Tryz.prog W 0 (fun _=>true) false n 9 ([c0,c1,c2,c3].take (Tryz.prog.cellsOf 9))=some y0:=hfd 0 _ rfl;rw [k2,show [c0,c1,c2,c3].take 1=[c0] from rfl] at h0;have h1:DataW.trod encU Tryz.prog W 0 (fun _=>true) false n 3 ([c1,c2,c3].take (Tryz.prog.cellsOf 3))=some y1:=hfd 1 _ rfl;rw [k1,show [c1,c2,c3].take 1=[c1] from rfl] at h1;have h2:DataW.trod encU Tryz.prog W 0 (fun _=>true) false n 3 ([c2,c3].take (Tryz.prog.cellsOf 3))=some y2:=hfd 2 _ rfl;rw [k1,show [c2,c3].take 1=[c2] from rfl] at h2;have h3:DataW.trod encU Tryz.prog W 0 (fun _=>true) false n 4 ([c3].take (Tryz.prog.cellsOf 4))=some y3:=hfd 3 _ rfl;rw [k3,show [c3].take 1=[c3] from rfl] at h3;obtain⟨s0,e0,z0,_⟩:=DataW.trod_string Tryz.underlying9 h0;obtain⟨m1,e1,z1,_⟩:=DataW.trod_int Tryz.underlying3 h1;obtain⟨m2,e2,z2,_⟩:=DataW.trod_int Tryz.underlying3 h2;obtain⟨b3,e3,z3⟩:=DataW.trod_bool Tryz.underlying4 h3;obtain rfl:c0=.string s0:=(by simpa using e0);obtain rfl:c1=.int .i64 m1:=(by simpa using e1);obtain rfl:c2=.int .i64 m2:=(by simpa using e2);obtain rfl:c3=.bool b3:=(by simpa using e3);subst z0 z1 z2 z3;exact⟨s0,m1,m2,b3,rfl,by rw [hx];rfl⟩
theorem row_pre {W:World} {fuel:Nat} {cs:List Value} {x:DataW Unit × List MemPlace} (hl:cs.length=2) (h:DataW.trod encU Tryz.prog W 0 (fun _=>true) false fuel 184 cs=some x) :
  ∃ (s:ByteArray) (k:Int),cs=[.string s,.int .i64 k]∧x.1=.agg [.lit (.string s.data.toList),.lit (.int .i64 k)]:=by
 obtain⟨k1,k2,_,_,_⟩:=cellsE;obtain⟨xs,n,_,hx,_,hlen,hfd⟩:=DataW.trod_struct Tryz.underlying184 h;match cs,hl with
 | [c0,c1],_ =>
  match xs,hlen with
  | [y0,y1],_ =>
   have h0:DataW.trod encU Tryz.prog W 0 (fun _=>true) false n 9 ([c0,c1].take (Tryz.prog.cellsOf 9))=some y0:=hfd 0 _ rfl;rw [k2,show [c0,c1].take 1=[c0] from rfl] at h0;have h1:DataW.trod encU Tryz.prog W 0 (fun _=>true) false n 3 ([c1].take (Tryz.prog.cellsOf 3))=some y1:=hfd 1 _ rfl;rw [k1,show [c1].take 1=[c1] from rfl] at h1;obtain⟨s0,e0,z0,_⟩:=DataW.trod_string Tryz.underlying9 h0;obtain⟨m1,e1,z1,_⟩:=DataW.trod_int Tryz.underlying3 h1;obtain rfl:c0=.string s0:=(by simpa using e0);obtain rfl:c1=.int .i64 m1:=(by simpa using e1);subst z0 z1;exact⟨s0,m1,rfl,by rw [hx];rfl⟩
def dBin (r:Row):DataW Unit:=.agg [.lit (.string r.1),.lit (.int .i64 r.2.1),.lit (.int .i64 r.2.2.1),.lit (.bool r.2.2.2)]
def dPre (r:List UInt8 × Int):DataW Unit:=.agg [.lit (.string r.1),.lit (.int .i64 r.2)]
theorem var_cell {W:World} {n:String} {g:Nat} {cs:Array Value} (hg:Tryz.prog.globalNamed n=some g) (h:W.var? Tryz.prog n=some cs) (hf:∃ c t,W.heap[g]? = some (.cells c t (0,0))):W.cell? ⟨g,0,none⟩=cs[0]?:=by
 obtain⟨c,t,hc⟩:=hf;unfold World.var? at h;rw [hg] at h;simp only [Option.bind_some,hc] at h;cases h;exact cell_of_row W g 0 _ _ (0,0) hc
theorem bin_of_laid {W : World} {r : List (String × DataW Unit)} (h : laidMet Tryz.prog (("testbench/exprtext.binaries", Rows.laid_testbench_exprtext_binaries) :: r) W) : BinAt W := by
 obtain⟨ps,hv,_,hpl⟩:=h;obtain⟨g,t,cs,fuel,p,q,hg,ht,hvar,htrod,_,hps⟩:=hv;rw [gBin] at hg;cases hg;rw [tBinS] at ht;cases ht;rcases DataW.trod_slice Tryz.underlying193 htrod with ⟨_,hx⟩ | ⟨a,len,cap,elems,rest,m,_,hcs,hx,_,hlc,_,hel,hE,_,_⟩
 ·exact absurd (congrArg Prod.fst hx) (by unfold Rows.laid_testbench_exprtext_binaries;simp)
 ·have hd:Rows.laid_testbench_exprtext_binaries=DataW.slice (elems.map (·.1)) (rest.map (·.1)):=congrArg Prod.fst hx;have hp:p=_:=congrArg Prod.snd hx;have hrows:elems.map (·.1)=binRow.map dBin:=by
   have:Rows.laid_testbench_exprtext_binaries=DataW.slice (binRow.map dBin) ([]:List (DataW Unit)):=rfl;rw [this] at hd;injection hd with q1 q2
   exact q1.symm
  have hlen:len=17:=(by rw [←hel,←List.length_map (f:=(·.1)),hrows];rfl);subst hlen;rw [cellsE.2.2.2.1] at hE hp;have hcz:cs[0]? = some (.slice (some a) 17 cap):=by
   rw [←Array.getElem?_toList,hcs];rfl
  have hcsz:cs.size=1:=(by rw [←Array.length_toList,hcs];rfl);have each:∀ i y,binRow[i]? = some y→∀ j,j<4→W.cell? ((a.add (i*4)).add j)=([.string (bs y.1),.int .i64 y.2.1,.int .i64 y.2.2.1,.bool y.2.2.2]:List Value)[j]?:=fun i y hy=>by
   have hi:i<17:=(List.getElem?_eq_some_iff.1 hy).1;have hb:=hE i hi;rw [List.getElem?_eq_getElem (by omega),Option.bind_eq_some_iff] at hb;obtain⟨cs',hc',ht'⟩:=hb;obtain⟨_,hcl,hat⟩:=World.cells?_some hc';obtain⟨s,k,o,b,rfl,hxd⟩:=row_bin hcl ht';have e:(elems.map (·.1))[i]? = some (elems[i]'(by omega)).1:=(by rw [List.getElem?_map,List.getElem?_eq_getElem (by omega)];rfl);rw [hrows,List.getElem?_map,hy,hxd] at e;have e2:=Option.some.inj e;unfold dBin at e2;injection e2 with e3
   simp only [List.cons.injEq,DataW.lit.injEq,Lit.string.injEq,Lit.int.injEq,Lit.bool.injEq,true_and,and_true] at e3;obtain⟨r1,r2,r3,r4⟩:=e3;rw [r1,r2,r3,r4];exact hat
  obtain⟨b,off,spot⟩:=a;have hspot:spot=none:=by
   have:=each 0 _ rfl 0 (by omega)
   simpa [Addr.add] using World.cell?_spot this
  subst hspot;have hin:MemPlace.cell b off∈ps:=by
   rw [hps,hp];exact List.mem_append.2 (.inl (List.mem_append.2 (.inr (List.mem_append.2 (.inl (MemPlace.mem_row.2 ⟨0,by omega,by simp⟩))))))
  have hing:MemPlace.cell 2 0∈ps:=by
   rw [hps];exact List.mem_append.2 (.inl (List.mem_append.2 (.inl (MemPlace.mem_row.2 ⟨0,by omega,by simp⟩))))
  obtain⟨⟨c1,t1,hh⟩,_⟩:=hpl b off hin;refine⟨b,off,cap,(var_cell gBin hvar (hpl _ _ hing).1).trans hcz,hlc,(Array.getElem?_eq_some_iff.1 hh).1,fun i y hy=>?_⟩;have q:=each i y hy;simp only [add_at'] at q;exact⟨q 0 (by omega),q 1 (by omega),q 2 (by omega),q 3 (by omega)⟩
theorem pre_of_laid {W : World} {r : List (String × DataW Unit)} (h : laidMet Tryz.prog (("testbench/exprtext.prefixes", Rows.laid_testbench_exprtext_prefixes) :: r) W) : PreAt W := by
 obtain⟨ps,hv,_,hpl⟩:=h;obtain⟨g,t,cs,fuel,p,q,hg,ht,hvar,htrod,_,hps⟩:=hv;rw [gPre] at hg;cases hg;rw [tPreS] at ht;cases ht;rcases DataW.trod_slice Tryz.underlying194 htrod with ⟨_,hx⟩ | ⟨a,len,cap,elems,rest,m,_,hcs,hx,_,hlc,_,hel,hE,_,_⟩
 ·exact absurd (congrArg Prod.fst hx) (by unfold Rows.laid_testbench_exprtext_prefixes;simp)
 ·have hd:Rows.laid_testbench_exprtext_prefixes=DataW.slice (elems.map (·.1)) (rest.map (·.1)):=congrArg Prod.fst hx;have hp:p=_:=congrArg Prod.snd hx;have hrows:elems.map (·.1)=preRow.map dPre:=by
   have:Rows.laid_testbench_exprtext_prefixes=DataW.slice (preRow.map dPre) ([]:List (DataW Unit)):=rfl;rw [this] at hd;injection hd with q1 q2
   exact q1.symm
  have hlen:len=3:=(by rw [←hel,←List.length_map (f:=(·.1)),hrows];rfl);subst hlen;rw [cellsE.2.2.2.2] at hE hp;have hcz:cs[0]? = some (.slice (some a) 3 cap):=by
   rw [←Array.getElem?_toList,hcs];rfl
  have hcsz:cs.size=1:=(by rw [←Array.length_toList,hcs];rfl);have each:∀ i y,preRow[i]? = some y→∀ j,j<2→W.cell? ((a.add (i*2)).add j)=([.string (bs y.1),.int .i64 y.2]:List Value)[j]?:=fun i y hy=>by
   have hi:i<3:=(List.getElem?_eq_some_iff.1 hy).1;have hb:=hE i hi;rw [List.getElem?_eq_getElem (by omega),Option.bind_eq_some_iff] at hb;obtain⟨cs',hc',ht'⟩:=hb;obtain⟨_,hcl,hat⟩:=World.cells?_some hc';obtain⟨s,k,rfl,hxd⟩:=row_pre hcl ht';have e:(elems.map (·.1))[i]? = some (elems[i]'(by omega)).1:=(by rw [List.getElem?_map,List.getElem?_eq_getElem (by omega)];rfl);rw [hrows,List.getElem?_map,hy,hxd] at e;have e2:=Option.some.inj e;unfold dPre at e2;injection e2 with e3
   simp only [List.cons.injEq,DataW.lit.injEq,Lit.string.injEq,Lit.int.injEq,true_and,and_true] at e3;obtain⟨r1,r2⟩:=e3;rw [r1,r2];exact hat
  obtain⟨b,off,spot⟩:=a;have hspot:spot=none:=by
   have:=each 0 _ rfl 0 (by omega)
   simpa [Addr.add] using World.cell?_spot this
  subst hspot;have hin:MemPlace.cell b off∈ps:=by
   rw [hps,hp];exact List.mem_append.2 (.inl (List.mem_append.2 (.inr (List.mem_append.2 (.inl (MemPlace.mem_row.2 ⟨0,by omega,by simp⟩))))))
  have hing:MemPlace.cell 3 0∈ps:=by
   rw [hps];exact List.mem_append.2 (.inl (List.mem_append.2 (.inl (MemPlace.mem_row.2 ⟨0,by omega,by simp⟩))))
  obtain⟨⟨c1,t1,hh⟩,_⟩:=hpl b off hin;refine⟨b,off,cap,(var_cell gPre hvar (hpl _ _ hing).1).trans hcz,hlc,(Array.getElem?_eq_some_iff.1 hh).1,fun i y hy=>?_⟩;have q:=each i y hy;simp only [add_at'] at q;exact⟨q 0 (by omega),q 1 (by omega)⟩
theorem tab_of_laid {W:World} (h:laidMetH Tryz.prog laidAll W):TabE W:=by
 rw [MakeChecks.laidMetH_plain _ _ _ (by kernel_rfl)] at h; have h1 : laidMet Tryz.prog (("internal/strconv.uint64pow10", Lib.tabData .u64 Lib.pow10Tab) :: ("strconv.ErrRange", Rows.laid_strconv_ErrRange) :: ("strconv.ErrSyntax", Rows.laid_strconv_ErrSyntax) :: ("testbench/exprtext.binaries", Rows.laid_testbench_exprtext_binaries) :: ("testbench/exprtext.prefixes", Rows.laid_testbench_exprtext_prefixes) :: []) W := h.tail.tail; obtain ⟨a0, _, hv0, _⟩ := laid_sentinel h1.tail gRange tRange Tryz.underlying76 rowErr Tryz.underlying212 Tryz.underlying214 rfl rfl Tryz.underlying9 cellsErr cellsStr; exact ⟨⟨_, _, hv0⟩, Lib.tabIs_of_head gPow10 tPow10 Tryz.underlying176 Tryz.underlying162 cellsU64 cellsPow10 h1, bin_of_laid h1.tail.tail.tail, pre_of_laid h1.tail.tail.tail.tail⟩
theorem door_met (os:Os) (args:Array Value):laidMetH Tryz.prog laidAll ((World.doorLaid Tryz.prog 400 os).forCall (fun _ _=>0) ⟨#[],args,[]⟩).memory :=
 laidMetH_of_parts3 (fuel:=8) (laidMet_of_run' 8 (by kernel_rfl) (by kernel_rfl)) (by kernel_rfl) (by kernel_rfl)
theorem bounds {a:Int} (h:(Lit.int .i64 a).wf=true):-9223372036854775808≤a∧a≤9223372036854775807:=by
 have e1:IntKind.i64.min = -9223372036854775808:=rfl;have e2:IntKind.i64.max=9223372036854775807:=rfl;simp [Lit.wf,e1,e2] at h;exact h
theorem laidOut:laidOutB Tryz.prog=true:=by kernel_rfl
theorem reach_le {n:Nat} (h:decide (n≤reachBytes)=true):n≤140737488351232:=of_decide_eq_true h
end EtW
namespace ClW
open Go Go.RowKit Go.ChangeShapes Go.WideShapes Go.ChangeAt LexM LexW ClM
theorem bounds {a:Int} (h:(Lit.int .i64 a).wf=true):-9223372036854775808≤a∧a≤9223372036854775807:=by
 have e1:IntKind.i64.min = -9223372036854775808:=rfl;have e2:IntKind.i64.max=9223372036854775807:=rfl;simp [Lit.wf,e1,e2] at h;exact h
theorem laidOut:laidOutB Tryz.prog=true:=by kernel_rfl
theorem add_at (b off k:Nat):(⟨b,off,none⟩:Addr).add k=⟨b,off+k,none⟩:=by
 unfold Addr.add;by_cases h:k=0
 ·subst h;simp
 ·simp [h]
theorem pick_list {α:Type} {Q:Nat→α→Prop}:∀ n:Nat,(∀ i,i<n→∃ t,Q i t)→∃ l:List α,l.length=n∧∀ i t,l[i]? = some t→Q i t
 | 0,_=>⟨[],rfl,fun i t h=>by simp at h⟩
 | n+1,h=>by
  obtain⟨l,hl,hq⟩:=pick_list n (fun i hi=>h i (by omega));obtain⟨t,ht⟩:=h n (by omega);refine⟨l++[t],by simp [hl],fun i u hu=>?_⟩;by_cases hi:i<n
  ·rw [List.getElem?_append_left (by omega)] at hu;exact hq i u hu
  ·have hil:i<(l++[t]).length:=(List.getElem?_eq_some_iff.1 hu).1;have e:i=n:=(by simp [hl] at hil;omega);subst e;rw [List.getElem?_append_right (by omega),hl] at hu;have:t=u:=(by simpa using hu);rw [←this];exact ht
theorem weights_in {H:Type} {P:Program} {e:TypeId}:∀ {l:List (DataW H)} {d:DataW H},d∈l→∀ n∈d.weights P e,n∈DataW.weightsAll P e l
 | d'::r,d,hd,n,hn=>by
  simp only [DataW.weightsAll,List.mem_append];rcases List.mem_cons.1 hd with rfl | h
  ·exact .inl hn
  ·exact .inr (weights_in h n hn)
theorem cells_int:Tryz.prog.cellsOf 3=1:=by kernel_rfl
theorem cells_bool:Tryz.prog.cellsOf 4=1:=by kernel_rfl
theorem cells_Weight:Tryz.prog.cellsOf 45=4:=by kernel_rfl
theorem bytes_Weight:Tryz.prog.bytesOf 45=32:=by kernel_rfl
theorem reach_le {n:Nat} (h:decide (n≤reachBytes)=true):n≤140737488351232:=of_decide_eq_true h
end ClW
namespace CtO
open Go Go.RowKit Go.ChangeShapes Go.WideShapes Go.ChangeAt NumM LexM LexW ExM ExW ItM ItW CtM CtW
open ClW (add_at pick_list weights_in)
open ClM (Fld)
open ClW (At RowA Lo CV)
theorem bulk_pos {H:Type} (d:DataW H):1≤Rows.uptoBulk d:=by
 unfold Rows.uptoBulk;split<;>omega
theorem ones {α:Type}:∀ l:List α,(l.map (fun _=>1)).sum=l.length
 | []=>rfl
 | _::r=>by rw [List.map_cons,List.sum_cons,ones r,List.length_cons];omega
section
variable {H:Type} {enc:TypeId × Value→H} {W:World}
theorem sum_bulk {α:Type} (f:α→Nat):∀ (l:List α) (r:List (DataW H)),l.length=r.length→(∀ (i:Nat) (a:α) (y:DataW H),l[i]? = some a→r[i]? = some y→f a≤Rows.uptoBulk y)→(l.map f).sum≤Rows.uptoBulkAll r
 | [],[],_,_=>by simp
 | a::l,y::r,h,k=>by
  have h1:=k 0 a y rfl rfl;have h2:=sum_bulk f l r (by simpa using h) (fun i b z hb hz=>k (i+1) b z hb hz);rw [List.map_cons,List.sum_cons,Rows.uptoBulkAll];omega
theorem open_row {α:Type} (T E:TypeId) (k byt:Nat) (hT:Tryz.prog.underlying T=some (.slice E)) (hc:Tryz.prog.cellsOf E=k) (hb:Tryz.prog.bytesOf E=byt) (h0:0<k) (P:List Value→DataW H→α→Prop) (fuel:Nat)
  (hel:∀ m (cs:List Value) (x:DataW H × List MemPlace),m<fuel→cs.length=k→DataW.trod enc Tryz.prog W 0 (fun _=>true) true m E cs=some x→(∀ y∈x.2,y.block<W.heap.size)→(∀ n∈x.1.weights Tryz.prog E,n≤140737488351232)→∃ t,P cs x.1 t)
  (v:Value) (x:DataW H × List MemPlace) (h:DataW.trod enc Tryz.prog W 0 (fun _=>true) true fuel T [v]=some x) (hlt:∀ y∈x.2,y.block<W.heap.size) (hw:∀ n∈x.1.weights Tryz.prog T,n≤140737488351232) :
  ∃ (p:Option Addr) (cap:Nat) (l:List α) (C:Nat→List Value),v=.slice p l.length cap∧l.length*byt≤140737488351232∧l.length≤cap ∧
   (0<l.length→∃ b off,p=some ⟨b,off,none⟩∧b<W.heap.size∧∀ i t,l[i]? = some t→∀ j,j<k→W.cell? ⟨b,off+i*k+j,none⟩=(C i)[j]?) ∧
   (∀ i t,l[i]? = some t→∃ d,P (C i) d t) ∧
   ∀ f:α→Nat,(∀ cs d t,P cs d t→f t≤Rows.uptoBulk d)→(l.map f).sum≤Rows.uptoBulk x.1:=by
 rcases DataW.trod_slice hT h with ⟨hcs,_⟩ | ⟨a,len,cap,elems,rest,m,rfl,hcs,rfl,_,hlc,_,hl,hE,_,_⟩
 ·obtain rfl:v=.slice none 0 0:=(by simpa using hcs);exact⟨none,0,[],fun _=>[],rfl,by simp,by simp,fun h=>by simp at h,fun i t h=>by simp at h,fun f _=>by simp⟩
 ·obtain rfl:v=.slice (some a) len cap:=(by simpa using hcs);rw [hc] at hE hlt;have hbytes:len*byt≤140737488351232:=by
   have:=hw ((elems.length+rest.length)*byt) (by simp only [DataW.weights,hT,hb,List.length_map];simp);have h2:len*byt≤(elems.length+rest.length)*byt:=Nat.mul_le_mul_right _ (by omega);omega
  have each:∀ i,i<len→∃ t:List Value × α,(∀ j,j<k→W.cell? ((a.add (i*k)).add j)=t.1[j]?)∧t.1.length=k∧∀ y,elems[i]? = some y→P t.1 y.1 t.2:=fun i hi=>by
   have hi2:i<elems.length:=(by omega);have hbb:=hE i hi;rw [List.getElem?_eq_getElem hi2,Option.bind_eq_some_iff] at hbb;obtain⟨cs',hc',ht'⟩:=hbb;obtain⟨_,hcl,hat⟩:=World.cells?_some hc';have hmem:elems[i]∈elems:=List.getElem_mem hi2
   obtain⟨t,hp⟩:=hel m cs' elems[i] (by omega) hcl ht'
    (fun y hy=>hlt y (List.mem_append.2 (.inr (List.mem_flatMap.2 ⟨_,List.mem_append.2 (.inl hmem),hy⟩))))
    (fun q hq=>hw q (by
     simp only [DataW.weights,hT,List.mem_cons,List.mem_append];exact .inr (.inl (weights_in (List.mem_map.2 ⟨_,hmem,rfl⟩) q hq))))
   exact⟨(cs',t),hat,hcl,fun y hy=>by rw [List.getElem?_eq_getElem hi2] at hy;cases hy;exact hp⟩
  obtain⟨l,hll,hq⟩:=pick_list len each;have get:∀ (i:Nat) (y:α),(l.map (·.2))[i]? = some y→∃ t:List Value × α,l[i]? = some t∧t.2=y:=fun i y he=>by
   rw [List.getElem?_map] at he;obtain⟨t,ht,rfl⟩:=Option.map_eq_some_iff.1 he;exact⟨t,ht,rfl⟩
  have hkl:(l.map (·.2)).length=len:=(by rw [List.length_map,hll]);refine⟨some a,cap,l.map (·.2),fun i=>((l[i]?).map (·.1)).getD [],by rw [hkl],by rw [hkl];exact hbytes,by rw [hkl];exact hlc,fun hpos=>?_,fun i y he=>?_,fun f hf=>?_⟩
  ·rw [hkl] at hpos;obtain⟨b,off,spot⟩:=a;have hspot:spot=none:=by
    obtain⟨t0,ht0⟩:∃ t,l[0]? = some t:=⟨_,List.getElem?_eq_getElem (by omega)⟩;obtain⟨g1,g2,_⟩:=hq 0 t0 ht0;have:=g1 0 h0;rw [List.getElem?_eq_getElem (by rw [g2];exact h0)] at this
    simpa [Addr.add] using World.cell?_spot this
   subst hspot;refine⟨b,off,rfl,hlt (.cell b off) (List.mem_append.2 (.inl (MemPlace.mem_row.2 ⟨0,Nat.mul_pos (by omega) h0,by simp⟩))),fun i y he j hj=>?_⟩;obtain⟨t,ht,_⟩:=get i y he;have:=(hq i t ht).1 j hj;rw [add_at,add_at] at this;rw [this];show t.1[j]? = (((l[i]?).map (·.1)).getD [])[j]?;rw [ht];rfl
  ·obtain⟨t,ht,rfl⟩:=get i y he;have hil:=(List.getElem?_eq_some_iff.1 ht).1;have hi2:i<elems.length:=(by omega);have:=(hq i t ht).2.2 _ (List.getElem?_eq_getElem hi2);refine⟨elems[i].1,?_⟩
   ·show P (((l[i]?).map (·.1)).getD []) _ _;rw [ht];exact this
  ·have q:=sum_bulk f (l.map (·.2)) ((elems.map (·.1)).take len) (by rw [hkl,List.length_take,List.length_map];omega) (fun i y d he hd=>by
    obtain⟨t,ht,rfl⟩:=get i y he;have hil:=(List.getElem?_eq_some_iff.1 ht).1;rw [List.getElem?_take,if_pos (by omega),List.getElem?_map] at hd;obtain⟨u,hu,rfl⟩:=Option.map_eq_some_iff.1 hd;exact hf _ _ _ ((hq i t ht).2.2 u hu))
   have hle:len=elems.length:=(by omega);rw [List.take_of_length_le (by rw [List.length_map];omega)] at q;simp only [Rows.uptoBulk];omega
theorem open_wts (fuel:Nat) (v:Value) (x:DataW H × List MemPlace) (h:DataW.trod enc Tryz.prog W 0 (fun _=>true) true fuel 22 [v]=some x) (hlt:∀ y∈x.2,y.block<W.heap.size) (hw:∀ n∈x.1.weights Tryz.prog 22,n≤140737488351232):∃ l,WtA W.heap.size W v l∧(∀ t∈l,okI t)∧l.length≤Rows.uptoBulk x.1:=by
 obtain⟨p,cap,l,C,rfl,h1,h2,h3,h4,h5⟩:=open_row (W:=W) (enc:=enc) 22 45 4 32 Tryz.underlying22 ClW.cells_Weight ClW.bytes_Weight (by decide) (fun cs _ (t:Wt)=>cs=[.int .i64 t.lo,.int .i64 t.hi,.int .i64 t.wt,.bool t.ea]∧okI t) fuel (fun m cs x _ hl h _ hw=>by
  obtain⟨xs,n,rfl,rfl,_,hlen,hfd⟩:=DataW.trod_struct Tryz.underlying45 h;match cs,hl with
  | [c0,c1,c2,c3],_ =>
   match xs,hlen with
   | [y0,y1,y2,y3],_ =>
    have h0:DataW.trod enc Tryz.prog W 0 (fun _=>true) true n 3 ([c0,c1,c2,c3].take (Tryz.prog.cellsOf 3))=some y0:=hfd 0 _ rfl;rw [ClW.cells_int,show [c0,c1,c2,c3].take 1=[c0] from rfl] at h0;obtain⟨m0,e0,_,w0⟩:=DataW.trod_int Tryz.underlying3 h0;obtain rfl:c0=.int .i64 m0:=(by simpa using e0);have h1:DataW.trod enc Tryz.prog W 0 (fun _=>true) true n 3 ([c1,c2,c3].take (Tryz.prog.cellsOf 3))=some y1:=hfd 1 _ rfl;rw [ClW.cells_int,show [c1,c2,c3].take 1=[c1] from rfl] at h1;obtain⟨m1,e1,_,w1⟩:=DataW.trod_int Tryz.underlying3 h1;obtain rfl:c1=.int .i64 m1:=(by simpa using e1);have h2:DataW.trod enc Tryz.prog W 0 (fun _=>true) true n 3 ([c2,c3].take (Tryz.prog.cellsOf 3))=some y2:=hfd 2 _ rfl;rw [ClW.cells_int,show [c2,c3].take 1=[c2] from rfl] at h2;obtain⟨m2,e2,_,w2⟩:=DataW.trod_int Tryz.underlying3 h2;obtain rfl:c2=.int .i64 m2:=(by simpa using e2);have h3:DataW.trod enc Tryz.prog W 0 (fun _=>true) true n 4 ([c3].take (Tryz.prog.cellsOf 4))=some y3:=hfd 3 _ rfl;rw [ClW.cells_bool,show [c3].take 1=[c3] from rfl] at h3;obtain⟨m3,e3,_⟩:=DataW.trod_bool Tryz.underlying4 h3;obtain rfl:c3=.bool m3:=(by simpa using e3);exact⟨⟨m0,m1,m2,m3⟩,rfl,ClW.bounds w0,ClW.bounds w1,ClW.bounds w2⟩) v x h hlt hw
 refine⟨l,⟨p,cap,rfl,h1,h2,fun h0=>?_⟩,fun t ht=>by obtain⟨i,hi⟩:=List.getElem?_of_mem ht;obtain⟨_,_,hok⟩:=h4 i t hi;exact hok,by have:=h5 (fun _=>1) (fun _ d _ _=>bulk_pos d);rw [ones] at this;exact this⟩;obtain⟨b,off,e,hb,hcell⟩:=h3 h0;refine⟨b,off,e,hb,fun i t hi=>?_⟩;obtain⟨_,hc,_⟩:=h4 i t hi;have c:=(fun j hj=>hcell i t hi j hj);rw [hc] at c;exact⟨c 0 (by decide),c 1 (by decide),c 2 (by decide),c 3 (by decide)⟩
def ItP (W:World) (cs:List Value) (d:DataW H) (x:It):Prop :=
 (∃ a4 a7 a8 a9 a10 a11,cs=[.int .i64 x.kd,.int .i64 x.e.op,.int .i64 x.e.n,.string x.e.nm,a4,.string x.nm,.string x.ix,a7,a8,a9,a10,a11]∧IV W.heap.size W a4 a7 a8 a9 a10 a11 x)∧bzI x≤Rows.uptoBulk d
end
end CtO
end Go.Proofs.YtihnejaopejbgaaGreatDoor
