/-
  Laws that the card uses; no conditions beside those that each states (ClLaid CtOpen).
-/
import Derived.Test.YtihnejaopejbgaaGreatDoorP42
set_option maxRecDepth 100000
set_option maxHeartbeats 16000000
namespace Go.Proofs.YtihnejaopejbgaaGreatDoor
namespace ClW
open Go Go.RowKit Go.ChangeShapes Go.WideShapes Go.ChangeAt LexM LexW ClM
theorem open_class {H:Type} {enc:TypeId × Value→H} {W:World} {r:Reach} {b0:Nat} {v:Value} {d:DataW H} {p:List MemPlace} (hval:Value.okWide Tryz.prog W r b0 32 v)
  (h:DataW.Trod enc Tryz.prog W 0 (fun _=>true) true 32 v d p) (hlt:∀ x∈p,x.block<W.heap.size) (hw:∀ n∈d.weights Tryz.prog 32,n≤140737488351232):∃ (c:Cl) (pf:Option Addr) (cf:Nat) (pb:Option Addr) (cb:Nat),v=cv c.nm c.par (.slice pf c.fs.length cf) (.slice pb c.bs.length cb)∧CV (Lo W.heap.size) W pf cf pb cb c:=by
 obtain⟨cs,rfl,hcs⟩:=okWide_struct Tryz.underlying32 hval;rw [cells_Class] at hcs;obtain⟨fuel,hf⟩:=h;obtain⟨ls,hz⟩:=el_classes fuel (open_rows fuel) cs.toList (d,p) (by simpa using hcs) (by simpa [Value.cells] using hf) hlt hw;obtain⟨l,hl⟩:∃ l,cs.toList=l:=⟨_,rfl⟩;rw [hl] at hz;have hc:cs=l.toArray:=(by rw [←hl]);subst hc;cases hz with
 | cons b0 r1=>cases r1 with
  | cons b1 r2=>cases r2 with
   | cons b2 r3=>cases r3 with
    | cons b3 r4=>cases r4 with
     | nil =>
      obtain⟨t0,rfl,rfl,z0⟩:=b0.sInv;obtain⟨t1,rfl,rfl,z1⟩:=b1.sInv;obtain⟨l2,p2,k2,_,rfl,rfl,_⟩:=b2.form;obtain⟨l3,p3,k3,_,rfl,rfl,_⟩:=b3.form;obtain⟨fs,rfl⟩:=b2.flds;obtain⟨bs,rfl⟩:=b3.bks;rw [List.length_map] at b2 b3 ⊢;rw [List.length_map];exact⟨⟨t0,t1,fs,bs⟩,p2,k2,p3,k3,rfl,z0,z1,b2,b3⟩
end ClW
namespace CtO
open Go Go.RowKit Go.ChangeShapes Go.WideShapes Go.ChangeAt NumM LexM LexW ExM ExW ItM ItW CtM CtW
open ClW (add_at pick_list weights_in)
open ClM (Fld)
open ClW (At RowA Lo CV)
theorem open_class {H:Type} {enc:TypeId × Value→H} {W:World} {r:Reach} {b0:Nat} {v:Value} {d:DataW H} {p:List MemPlace} (hval:Value.okWide Tryz.prog W r b0 32 v)
  (h:DataW.Trod enc Tryz.prog W 0 (fun _=>true) true 32 v d p) (hlt:∀ x∈p,x.block<W.heap.size) (hw:∀ n∈d.weights Tryz.prog 32,n≤140737488351232) :
  ∃ (k:Kl) (pf:Option Addr) (cf:Nat) (pk:Option Addr) (ck:Nat),v=.agg #[.string k.nm,.string k.par,.slice pf k.fs.length cf,.slice pk k.bs.length ck]∧KA W.heap.size W pf cf pk ck k∧bzK k≤Rows.uptoBulk d:=by
 obtain⟨cs,rfl,hcs⟩:=okWide_struct Tryz.underlying32 hval;rw [ClW.cells_Class] at hcs;obtain⟨fuel,hf⟩:=h;obtain⟨k,⟨pf,cf,pk,ck,he,ka⟩,hz⟩:=open_kl fuel cs.toList (d,p) (by simpa using hcs) (by simpa [Value.cells] using hf) hlt hw;have hc:cs=#[.string k.nm,.string k.par,.slice pf k.fs.length cf,.slice pk k.bs.length ck]:=by
  apply Array.ext';rw [he]
 rw [hc];exact⟨k,pf,cf,pk,ck,rfl,ka,hz⟩
end CtO
end Go.Proofs.YtihnejaopejbgaaGreatDoor
