/-
  Laws that the card uses; no conditions beside those that each states (CtSrc ClLaid CtOpen).
-/
import Derived.Test.YtihnejaopejbgaaGreatDoorP35
import Derived.Test.YtihnejaopejbgaaGreatDoorP42
set_option maxRecDepth 100000
set_option maxHeartbeats 16000000
namespace Go.Proofs.YtihnejaopejbgaaGreatDoor
namespace CtW
open Go Go.RowKit Go.Shelf NumM LexW ExW ItW LexM ExM EtM EtW ItM CtM
def srcT (ks:List Kl):List UInt8:=if ks.all okK=true then Lib.join (ks.map clsT) [10] else []
def bzKs (ks:List Kl):Nat:=(ks.map bzK).sum
theorem joinN_len (M:Nat) (l:List (List UInt8)) (h:∀ t∈l,t.length≤M):(Lib.join l [10]).length≤l.length*(M+1):=by
 induction l with
 | nil=>simp [Lib.join]
 | cons t r ih =>
  have h1:=h t (by simp);have h2:=ih (fun u hu=>h u (by simp [hu]));rw [List.length_cons,Nat.succ_mul];cases r with
  | nil=>rw [Lib.join_one];omega
  | cons u r =>
   have e:Lib.join (t::u::r) [10]=t++10::Lib.join (u::r) [10]:=(by rw [Lib.join_cons,Lib.join_cons];simp [Lib.joinTail]);rw [e,List.length_append,List.length_cons];omega
theorem joinRowN_any (L:List (List UInt8)) (b n:Nat) (w:World) (hn:L.length=n) (hr:w.rowIs b 9 n (strX L n)) (hlen:(Lib.join L [10]).length≤140737488355328) (hn9:n≤140737488355328) :
  Calls Tryz.prog 24 #[.slice (some ⟨b,0,none⟩) n n,.string ⟨#[10]⟩] w (tS (Lib.join L [10]) w):=by
 have e1:(L.map mb).map (·.data.toList)=L:=(by rw [List.map_map];exact List.map_id _);have q:=Tryz.strings_Join b 0 n (L.map mb) ⟨#[10]⟩ w (fun j x hj=>by
  rw [Nat.zero_add];have hjn:j<n:=by
   have:=(List.getElem?_eq_some_iff.1 hj).1;rw [List.length_map,hn] at this;exact this
  rw [hr.cell hjn];rw [List.getElem?_map] at hj;rcases g:L[j]? with _ | t
  ·rw [g] at hj;cases hj
  ·rw [g] at hj;have:mb t=x:=(by simpa using hj);rw [strX,if_pos hjn,txj,g,←this];rfl) hr.lt (by rw [List.length_map,hn];exact hn9) (by rw [List.length_map,hn];exact Nat.le_refl _) (by rw [e1];exact hlen)
 rw [List.length_map,hn,e1] at q;exact q
theorem sourceP_any (w0:World) (ks:List Kl) (v:Value) (hx:KsA w0.heap.size w0 v ks) (hz:bzKs ks≤2000000) (h100:ks.length≤100) (ht:TabE w0) (w:World) (hW:Below w0.heap.size w0 w) :
  Calls Tryz.prog 17 #[v] w (tS (srcT ks) w):=by
 obtain⟨p,cap,pf,cf,pk,ck,rfl,_,hcap,hka,hx⟩:=hx;have HX:=Lh hx;have HKA:=Lh hka;have HT:=Lh ht;have HW:=Lh hW;have HZ:Hid (∀ k∈ks,bzK k≤2000000):=Lh fun k hk=>by
  have:bzK k∈ks.map bzK:=List.mem_map.2 ⟨k,hk,rfl⟩;have:=sum_mem this;unfold bzKs at hz;omega
 clear hx hka ht hW hz;obtain⟨n,hnn⟩:∃ n,ks.length=n:=⟨_,rfl⟩;have hmk:=run_make_row' (P:=Tryz.prog) 43 9 (.string ⟨#[]⟩) 16 Tryz.underlying43 infoStr rfl .i64 .i64 ks.length (by omega) (by omega);have HR:Hid ((w.alloc (.cells (madeCells #[.string ⟨#[]⟩] n) 9)).rowIs w.heap.size 9 n (strX (ks.map klT) 0)):=Lh (World.rowIs_made w (.string ⟨#[]⟩) n 9);have HB0:Hid (Below w.heap.size w (w.alloc (.cells (madeCells #[.string ⟨#[]⟩] n) 9))):=Lh ((Below.refl _ _).alloc (Nat.le_refl _) _);rw [hnn] at hmk hcap h100 ⊢;have HN:=Lh hnn;clear hnn
 go_enter Tryz.func17,Tryz.ntmps17
 go_wp2;go_loopw [11] (fun i wr=>∃ k:Nat,k≤n∧i=.int .i64 k∧Hid (wr.rowIs w.heap.size 9 n (strX (ks.map klT) k))∧Hid (Below w.heap.size w wr)∧Hid ((ks.take k).all okK=true)) (fun i _=>n - (intOf i).toNat)
 case atStart=>exact⟨0,Nat.zero_le _,rfl,HR,HB0,Lh rfl⟩
 case round =>
  obtain⟨k,hk,rfl,ROW,BW,OK⟩:=hrel;by_cases hlt:k<n
  ·obtain⟨b,off,rfl,hbs,hcell⟩:=HX.out (by rw [HN.out];omega);obtain⟨c,hck⟩:∃ t,ks[k]? = some t:=⟨_,List.getElem?_eq_getElem (by rw [HN.out];exact hlt)⟩;have hlow:=low_cells (HW.out.then_ BW.out);obtain⟨q0,q1,q2,q3⟩:=hcell k c hck;have ca0:=hlow _ _ hbs _ q0;have ca1:=hlow _ _ hbs _ q1;have ca2:=hlow _ _ hbs _ q2;have ca3:=hlow _ _ hbs _ q3;have hka:=HKA.out k c hck;have hmem:=List.mem_of_getElem? hck;have PC:Hid (∀ W2,Below w.heap.size w W2→Calls Tryz.prog 15 #[.agg #[.string c.nm,.string c.par,.slice (pf k) c.fs.length (cf k),.slice (pk k) c.bs.length (ck k)]] W2 (tS (klT c) W2)):=Lh fun W2 h2 =>
    printP_any w0 c (pf k) (cf k) (pk k) (ck k) hka (HZ.out c hmem) HT.out W2 (HW.out.then_ h2)
   have htk':(ks.map klT)[k]? = some (klT c):=(by rw [List.getElem?_map,hck];rfl);have SN:=Lh (strX_next htk');have hK:klT c=if okK c=true then clsT c else []:=rfl
   have OKN:Hid (okK c=true→(ks.take (k+1)).all okK=true):=Lh fun h=>by
    obtain⟨hj,he⟩:=List.getElem?_eq_some_iff.1 hck;rw [List.take_succ_eq_append_getElem hj,List.all_append,OK.out,he];simp [h]
   have NOT:Hid (okK c=false→srcT ks=[]):=Lh fun h=>by
    unfold srcT;rw [if_neg];intro h2;have:=List.all_eq_true.1 h2 c hmem;rw [h] at this;cases this
   clear hcell q0 q1 q2 q3 hck htk' hlow hka hmem;cases ho:okK c
   ·rw [ho] at hK;rw [if_neg (by decide)] at hK;have EE:=Lh (NOT.out ho);rw [hK] at PC SN;rw [EE.out];clear hK ho NOT OKN;generalize c.nm=nm at *
    generalize c.par=par at *
    generalize c.fs.length=nf at *
    generalize c.bs.length=nk at *
    generalize pf k=p1 at *
    generalize cf k=k1 at *
    generalize pk k=p2 at *
    generalize ck k=k2 at *
    go_wp2_with (go_at_call 15;((with_reducible refine (PC.out _ (BW.out.alloc BW.out.size _)).mono ?_);rintro e w1 ⟨rfl,hb⟩;have BW1:=Lh (BW.out.trans ((below_new hb).mono BW.out.size));have R1:=Lh (ROW.out.of_block ((below_new hb).block _ ROW.out.lt));clear hb ca0 ca1 ca2 ca3;have ck:=R1.out.cell hlt;have fk:=R1.out.frozen k;have cs:=(R1.out.set k (.string ⟨#[]⟩)).cell hlt;rw [if_pos rfl] at cs))
    go_ret;exact⟨rfl,BW1.out.setCell (Nat.le_refl _) _⟩
   ·rw [ho] at hK;rw [if_pos rfl] at hK;have OKX:=Lh (OKN.out ho);have hne:=clsT_ne c;rw [←hK] at hne;obtain⟨y,hy⟩:∃ y,klT c=y:=⟨_,rfl⟩;rw [hy] at PC SN hne;obtain⟨s,hs⟩:∃ s,mb y=s:=⟨_,rfl⟩;have PD:Hid (∀ W2,Below w.heap.size w W2→Calls Tryz.prog 15 #[.agg #[.string c.nm,.string c.par,.slice (pf k) c.fs.length (cf k),.slice (pk k) c.bs.length (ck k)]] W2 (fun e w'=>e=.returned (.string s)∧Below W2.heap.size W2 w')):=(Lh fun W2 h2=>by rw [←hs];exact PC.out W2 h2);rw [hs] at SN;have hsz:¬ s.size=0:=by
     rw [←hs];show ¬ y.length=0
     simpa using hne
    have f1:s.toList.isEmpty=false:=(by rw [isEmp_toList];unfold isEmp;simpa using hsz);have f2:(s.toList == [])=false:=(by rw [←f1];cases s.toList<;>rfl);clear hK ho NOT OKN PC hne hy hs hsz;generalize c.nm=nm at *
    generalize c.par=par at *
    generalize c.fs.length=nf at *
    generalize c.bs.length=nk at *
    generalize pf k=p1 at *
    generalize cf k=k1 at *
    generalize pk k=p2 at *
    generalize ck k=k2 at *
    go_wp2_with (go_at_call 15;((with_reducible refine (PD.out _ (BW.out.alloc BW.out.size _)).mono ?_);rintro e w1 ⟨rfl,hb⟩;have BW1:=Lh (BW.out.trans ((below_new hb).mono BW.out.size));have R1:=Lh (ROW.out.of_block ((below_new hb).block _ ROW.out.lt));clear hb ca0 ca1 ca2 ca3;have ck:=R1.out.cell hlt;have fk:=R1.out.frozen k;have cs:=(R1.out.set k (.string s)).cell hlt;rw [if_pos rfl] at cs))
    go_roundw
    case rel=>exact⟨k+1,by omega,by go_num,Lh ((R1.out.set k _).congr (fun j _=>SN.out j)),Lh (BW1.out.setCell (Nat.le_refl _) _),OKX⟩
    case measure=>simp [intOf];omega
  ·obtain rfl:n=k:=(by omega);have hall:ks.all okK=true:=(by have:=OK.out;rw [List.take_of_length_le (by rw [HN.out];exact Nat.le_refl _)] at this;exact this);have EE:srcT ks=Lib.join (ks.map klT) [10]:=by
    unfold srcT;rw [if_pos hall]
    congr 1
    refine (List.map_congr_left fun k hk=>?_);unfold klT;rw [if_pos (List.all_eq_true.1 hall k hk)]
   have HEE:=Lh EE;have HL:=joinN_len 5000000000 (ks.map klT) (fun x hx=>by
    obtain⟨k,hk,rfl⟩:=List.mem_map.1 hx;have ho:=List.all_eq_true.1 hall k hk;unfold klT;rw [if_pos ho];exact cls_len ho (HZ.out k hk))
   rw [List.length_map,HN.out] at HL;have SJ:=Lh (joinRowN_any (ks.map klT) w.heap.size n wr (by rw [List.length_map,HN.out]) ROW.out (by omega) (by omega));clear HL EE hall;go_wp2_with (go_at_call 24;((with_reducible refine SJ.out.mono ?_);rintro e w1 ⟨rfl,hb⟩))
   go_ret;exact tS_mk HEE.out.symm (BW.out.trans (hb.mono BW.out.size))
end CtW
namespace ClW
open Go Go.RowKit Go.ChangeShapes Go.WideShapes Go.ChangeAt LexM LexW ClM
theorem At.cls {S:Nat→Prop} {W:World} {v:Value} {l:List (List Lf)} (h:At S W (.r .classes) v (.row .classes l)):∃ fs:List Cl,fs.map Cl.lf=l:=by
 obtain⟨p,cap,F,rfl,r⟩:=h.rowOf;refine all_of (fun x hx=>?_);obtain⟨i,hi⟩:=List.getElem?_of_mem hx;have hw:=r.hw i x hi;match x,hw with
 | [y0,y1,y2,y3],_ =>
  obtain⟨a0,_,rfl,_⟩:=(r.hx i _ 0 y0 .s hi rfl rfl).sInv;obtain⟨a1,_,rfl,_⟩:=(r.hx i _ 1 y1 .s hi rfl rfl).sInv;have a2:=r.hx i _ 2 y2 (.r .fields) hi rfl rfl;obtain⟨l2,_,_,_,rfl,_,_⟩:=a2.form;have a3:=r.hx i _ 3 y3 (.r .blocks) hi rfl rfl;obtain⟨l3,_,_,_,rfl,_,_⟩:=a3.form;obtain⟨fs,rfl⟩:=a2.flds;obtain⟨bs,rfl⟩:=a3.bks;exact⟨⟨a0,a1,fs,bs⟩,rfl⟩
theorem open_classes {H:Type} {enc:TypeId × Value→H} {W:World} {r:Reach} {b0:Nat} {v:Value} {d:DataW H} {p:List MemPlace} (hval:Value.okWide Tryz.prog W r b0 35 v)
  (h:DataW.Trod enc Tryz.prog W 0 (fun _=>true) true 35 v d p) (hlt:∀ x∈p,x.block<W.heap.size) (hw:∀ n∈d.weights Tryz.prog 35,n≤140737488351232):∃ (src:List Cl) (q:Option Addr) (cap:Nat) (G:Nat→Nat→Value),v=.slice q src.length cap∧RowA (Lo W.heap.size) W .classes q cap G (src.map Cl.lf):=by
 obtain⟨a0,len0,cap0,rfl⟩:=okWide_slice Tryz.underlying35 hval;obtain⟨fuel,hf⟩:=h;obtain⟨l,hat⟩:=open_rows (enc:=enc) (W:=W) (fuel+1) fuel (by omega) .classes _ (d,p) (by simpa [Value.cells,slT] using hf) hlt hw;obtain⟨src,rfl⟩:=hat.cls;obtain⟨q,cap,G,e,ra⟩:=hat.rowOf;rw [List.length_map] at e;exact⟨src,q,cap,G,e,ra⟩
end ClW
namespace CtO
open Go Go.RowKit Go.ChangeShapes Go.WideShapes Go.ChangeAt NumM LexM LexW ExM ExW ItM ItW CtM CtW
open ClW (add_at pick_list weights_in)
open ClM (Fld)
open ClW (At RowA Lo CV)
theorem open_classes {H:Type} {enc:TypeId × Value→H} {W:World} {r:Reach} {b0:Nat} {v:Value} {d:DataW H} {p:List MemPlace} (hval:Value.okWide Tryz.prog W r b0 35 v)
  (h:DataW.Trod enc Tryz.prog W 0 (fun _=>true) true 35 v d p) (hlt:∀ x∈p,x.block<W.heap.size) (hw:∀ n∈d.weights Tryz.prog 35,n≤140737488351232) :
  ∃ l:List Kl,KsA W.heap.size W v l∧bzKs l≤Rows.uptoBulk d:=by
 obtain⟨a0,len0,cap0,rfl⟩:=okWide_slice Tryz.underlying35 hval;obtain⟨fuel,hf⟩:=h;obtain⟨q,cap,l,C,e,k1,k2,k3,k4,k5⟩:=open_row (W:=W) (enc:=enc) 35 32 4 80 Tryz.underlying35 ClW.cells_Class ClW.bytes_Class (by decide) (KlP W) fuel (fun m cs y _ hl h hlt hw=>open_kl m cs y hl h hlt hw) _ (d,p) (by simpa [Value.cells] using hf) hlt hw;refine⟨l,⟨q,cap,fun i=>slP ((C i).getD 2 (.bool false)),fun i=>slC ((C i).getD 2 (.bool false)),fun i=>slP ((C i).getD 3 (.bool false)),fun i=>slC ((C i).getD 3 (.bool false)),e,k1,k2,fun i k hk=>?_,fun q0=>?_⟩,?_⟩
 ·obtain⟨d,⟨pf,cf,pk,ck,e',ka⟩,_⟩:=k4 i k hk;simp only [];rw [e'];exact ka
 ·obtain⟨b,off,e,hb,hcell⟩:=k3 q0;refine⟨b,off,e,hb,fun i k hk=>?_⟩;obtain⟨d,⟨pf,cf,pk,ck,e',_⟩,_⟩:=k4 i k hk;have c:=(fun j hj=>hcell i k hk j hj);simp only [];rw [e'] at c ⊢;exact⟨c 0 (by decide),c 1 (by decide),c 2 (by decide),c 3 (by decide)⟩
 ·exact k5 bzK fun _ _ _ h=>h.2
end CtO
end Go.Proofs.YtihnejaopejbgaaGreatDoor
