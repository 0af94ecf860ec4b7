/-
  Laws that the card uses; no conditions beside those that each states (ItValid ItNames ItCheck ExSigO ItRCk ItLChk ItRWt ItScN ItSame).
-/
import Derived.Deep.DrawnRows
import Derived.Test.YtpejflgdehioaaaGreatDoorT32
import Derived.Test.YtpejflgdehioaaaGreatDoorT36
import Derived.Test.YtpejflgdehioaaaGreatDoorT42
namespace Go.Proofs.YtpejflgdehioaaaGreatDoor.ItW
open Go Go.RowKit Go.Shelf Go.Proofs.YtpejflgdehioaaaGreatDoor.LexW Go.Proofs.YtpejflgdehioaaaGreatDoor.LexM Go.Proofs.YtpejflgdehioaaaGreatDoor.ExM Go.Proofs.YtpejflgdehioaaaGreatDoor.ExW Go.Proofs.YtpejflgdehioaaaGreatDoor.ItM
open Go.Proofs.YtpejflgdehioaaaGreatDoor.ClM (firstE firstE_zero)
attribute [local go_sem] Oper.semAt_some
theorem below_in {n₀ : Nat} {A B C : World} (h : Below n₀ A B) (k : Below n₀ A C) : ∀ b o, b < n₀ → ∀ v, B.cell? ⟨b, o, none⟩ = some v → C.cell? ⟨b, o, none⟩ = some v := fun b o hlt _ hv =>
  (k.cell (p := ⟨b, o, none⟩) hlt).trans ((h.cell (p := ⟨b, o, none⟩) hlt).symm.trans hv)
theorem first_of {L : List Pl} {q M : List Pl} {g : Pl → Int} (h : q <+: L) (hL : L = M) (hne : firstE (q.map g) ≠ 0) : firstE (M.map g) = firstE (q.map g) := by
  subst hL; obtain ⟨r, rfl⟩ := h; rw [List.map_append, firstE_append, if_neg hne]
set_option maxRecDepth 100000 in
set_option maxHeartbeats 8000000 in
theorem itemValid_any (l0 : List It) (v : Value) (w : World) (hx : ItsA w.heap.size w v l0) (hsz : iszs l0 ≤ 10000) (hrs : RsL l0) (ht : Tab w) :
    Calls Tryz.prog 17 #[v] w (tInt (validI l0) w) := by
  obtain ⟨p, cap, V, rfl, hri⟩ := hx.form; have hK0 : l0.length ≤ 140737488351232 := (by have := hri.hl; omega); have HX := Lib.hid hx; have HT := Lib.hid ht; have HRS : Hid (∀ q ∈ wks 0 [] l0, Nd1 q.x) := Lib.hid (rs_wks l0 0 [] hrs); have SC : Hid (∀ n W, Below w.heap.size w W → CallsIn Fence.wide n Tryz.prog 12 #[.slice p l0.length cap] W fun x w' => x = .returned (.int .i64 (iszs l0)) ∧ Below W.heap.size W w') := (Lib.hid fun n W hW => callsIn_wide.2 (itemSize_any l0 _ W ((HX.out.under hW).wide hW.size) hsz)); clear hx ht hrs hri; generalize l0.length = K at *
  refine (callsIn_wide (n := 9)).1 ?_; refine callsIn_of_wp_marks Tryz.func17 rfl trivial ?_ rfl; simp only [Tryz.ntmps17, List.size_toArray, List.length_cons, List.length_nil, Nat.reduceAdd, Nat.reduceSub, Array.replicate_succ, Array.replicate_zero, List.push_toArray, List.append_toArray, List.nil_append, List.cons_append]; have hbR : Below w.heap.size w (w.alloc (.cells #[.int .i64 0] 29)) := (Below.refl _ _).alloc (Nat.le_refl _) _; have HBR := Lib.hid hbR; have HR0 := Lib.hid (Boxed.new w 29 (.int .i64 0)); clear hbR; obtain ⟨Z, hZ⟩ : ∃ Z, iszs l0 = Z := ⟨_, rfl⟩; have HV : Hid (validI l0 = if 64 < Z then 2 else firstV l0) := Lib.hid (by unfold validI; rw [hZ]); have HZ := Lib.hid hZ; rw [hZ] at SC hsz; clear hZ; by_cases h64 : 64 < Z
  · have q : decide ((64 : Int) < Z) = true := decide_eq_true (by omega); have E : Hid (2 = validI l0) := Lib.hid (by rw [HV.out, if_pos h64])
    gi_wp2_with (refine ⟨trivial, ?_⟩; gi_at_call 12; refine (SC.out _ _ HBR.out).mono ?_; rintro e w1 ⟨rfl, hb⟩; have bR := bxStay HR0.out hb; have cR := bR.cell; have fR := bR.frozen; have HB1 := Lib.hid (HBR.out.then_ hb); clear hb)
    refine ⟨.int .i64 2, ?_, ExW.tInt_mk E.out (HB1.out.setCell (p := ⟨w.heap.size, 0, none⟩) (by simp) _)⟩; have hc5 := World.cell?_setCell_same' w1 ⟨w.heap.size, 0, none⟩ (.int .i64 2) (by rw [cR]; rfl); simp [results, Tryz.results17, go_sem, hc5]
  · have q : decide ((64 : Int) < Z) = false := decide_eq_false (by omega); have HV2 : Hid (validI l0 = firstV l0) := Lib.hid (by rw [HV.out, if_neg h64])
    gi_wp2_with (first
      | (refine ⟨trivial, ?_⟩; gi_at_call 12; refine (SC.out _ _ HBR.out).mono ?_; rintro e w1 ⟨rfl, hb⟩; have bR := bxStay HR0.out hb; have HB1 := Lib.hid (HBR.out.then_ hb); have HR1 := Lib.hid bR; clear hb bR)
      | (refine ⟨trivial, ?_⟩; gi_at_call 36; refine (constraints_in Fence.wide _ trivial rfl _ _ _ _).mono ?_; rintro e w' ⟨rfl, rfl⟩))
    have hs1 := HB1.out.size; have hR1l := HR1.out.lt; have bR := HR1.out.alloc (.cells #[.slice p K cap] 22); have bL := Boxed.new w1 22 (.slice p K cap); have hB0 : Below w.heap.size w (w1.alloc (.cells #[.slice p K cap] 22)) := HB1.out.alloc (by omega) _; have hz : (w1.alloc (.cells #[.slice p K cap] 22)).heap.size = w1.heap.size + 1 := (by simp); obtain ⟨W0, hW0⟩ : ∃ W0, w1.alloc (.cells #[.slice p K cap] 22) = W0 := ⟨_, rfl⟩; rw [hW0] at bR bL hB0 hz ⊢; clear hW0
    refine range_tells rfl (by decide) (gf := 65) (lb := #[.pointer (some ⟨w1.heap.size, 0, none⟩)]) rfl trivial (enters_of Tryz.func65 (by kernel_rfl) rfl)
      (constraints_tells Fence.wide rfl _ trivial trivial rfl w.heap.size (w.heap.size + 1) w1.heap.size (by omega) l0 (by rw [HZ.out]; exact hsz) (fun q => Nd1 q.x) HRS.out _ W0 (by omega) bL (HX.out.under hB0)) keepC_t (keepC_b (by omega)) (fun _ => rfl)
      (fun bef W => (Boxed W w.heap.size 29 (.int .i64 0) ∧ firstE ((bef.map Pn.pl).map fltP) = 0) ∧ Below w.heap.size w W)
      (fun c bef W => (Boxed W w.heap.size 29 (.int .i64 (firstE ((bef.map Pn.pl).map fltP))) ∧ (c = .ret ∧ firstE ((bef.map Pn.pl).map fltP) ≠ 0)) ∧ Below w.heap.size w W)
      (OwnFrom.and (OwnFrom.and (Own.from (boxed_own _ _ _) _) (ownFrom_pure _ _)) (ownFrom_below (Nat.le_refl _) (by omega)))
      (fun c => OwnFrom.and (OwnFrom.and (Own.from (boxed_own _ _ _) _) (ownFrom_pure _ _)) (ownFrom_below (Nat.le_refl _) (by omega)))
      ⟨⟨bR, rfl⟩, hB0⟩ ?round ?done ?stop
    case round =>
      rintro l bef x W hl ⟨⟨bR1, hf1⟩, hB1⟩ htell hlt; have hnd := htell.2; have HMP : Hid (firstE (((bef ++ [x]).map Pn.pl).map fltP) = fltP x.pl) := Lib.hid (by rw [List.map_append, List.map_append, List.map_cons, List.map_nil, List.map_cons, List.map_nil, firstE_snoc, if_pos hf1]); have hWs := hB1.size; have hl1 := bR1.lt; have HBR1 := Lib.hid bR1; have HF1 := Lib.hid hf1; have HBW := Lib.hid hB1; clear htell bR1 hf1 hB1; have hpl : x.pl = ⟨x.d, x.B, x.x⟩ := rfl; rw [hpl] at HMP hnd; obtain ⟨d, B, it, a4, a7, a8, a9, a10, a11, mb, hd, hv⟩ := x; simp only at HMP hnd hpl ⊢; obtain ⟨p4, k4, p7, k7, p8, k8, p9, k9, p10, k10, p11, k11, rfl, rfl, rfl, rfl, rfl, rfl⟩ := hv.slices; rw [zip2]; have b1 : Below W.heap.size W ((W.alloc (.cells #[.int .i64 d, .map (some mb)] 70)).alloc (.cells (ics it.kd it.e.op it.e.n it.e.nm (.slice p4 it.e.args.length k4) it.nm it.ix (.slice p7 it.ws.length k7) (.slice p8 it.it.length k8) (.slice p9 it.el.length k9) (.slice p10 it.bf.length k10) (.slice p11 it.af.length k11)).toArray 55)) := ((Below.refl _ _).alloc (Nat.le_refl _) _).alloc (by simp) _; have FP := (Blk.new W [.int .i64 d, .map (some mb)] 70).alloc (.cells (ics it.kd it.e.op it.e.n it.e.nm (.slice p4 it.e.args.length k4) it.nm it.ix (.slice p7 it.ws.length k7) (.slice p8 it.it.length k8) (.slice p9 it.el.length k9) (.slice p10 it.bf.length k10) (.slice p11 it.af.length k11)).toArray 55); have FI := Blk.new (W.alloc (.cells #[.int .i64 d, .map (some mb)] 70)) (ics it.kd it.e.op it.e.n it.e.nm (.slice p4 it.e.args.length k4) it.nm it.ix (.slice p7 it.ws.length k7) (.slice p8 it.it.length k8) (.slice p9 it.el.length k9) (.slice p10 it.bf.length k10) (.slice p11 it.af.length k11)) 55; rw [World.size_alloc] at FI; have B1 := Lib.hid b1; have FP1 := Lib.hid FP; have FI1 := Lib.hid FI; clear b1 FP FI
      gi_wp2
      refine ⟨keepsFrom_below B1.out, KeepC.of_below B1.out, ⟨⟨bxStay HBR1.out B1.out, HF1.out⟩, HBW.out.trans (B1.out.mono hWs)⟩, ?_⟩; rintro Wb hnear ⟨⟨bR2, _⟩, hB2⟩; have d0 := hnear.cell (FP1.out.c 0 _ rfl); have e0 := hnear.cell (FI1.out.c 0 _ rfl); have e1 := hnear.cell (FI1.out.c 1 _ rfl); have e2 := hnear.cell (FI1.out.c 2 _ rfl); have e3 := hnear.cell (FI1.out.c 3 _ rfl); have e4 := hnear.cell (FI1.out.c 4 _ rfl); have e5 := hnear.cell (FI1.out.c 5 _ rfl); have e6 := hnear.cell (FI1.out.c 6 _ rfl); have e7 := hnear.cell (FI1.out.c 7 _ rfl); have e8 := hnear.cell (FI1.out.c 8 _ rfl); have e9 := hnear.cell (FI1.out.c 9 _ rfl); have e10 := hnear.cell (FI1.out.c 10 _ rfl); have e11 := hnear.cell (FI1.out.c 11 _ rfl); have hsb := hB2.size; have hlR := bR2.lt; have FC : Hid (∀ n, CallsIn (Fence.wide.inRound l) n Tryz.prog 40 #[iv it.kd it.e.op it.e.n it.e.nm (.slice p4 it.e.args.length k4) it.nm it.ix (.slice p7 it.ws.length k7) (.slice p8 it.it.length k8) (.slice p9 it.el.length k9) (.slice p10 it.bf.length k10) (.slice p11 it.af.length k11), .int .i64 d] Wb (tInt (fltI d it) Wb)) :=
        Lib.hid fun n => CallsIn.inRound l (callsIn_wide.2 (fault_any d hd it _ _ _ _ _ _ w.heap.size Wb (hv.kept (below_in hB0 hB2) (Nat.le_refl _)) hsb hnd.1 (HT.out.later hB2)))
      have BR2 := Lib.hid bR2; have HB2 := Lib.hid hB2; clear bR2 hB2 hnear; by_cases hf : fltI d it = 0
      · rw [hf] at FC; have HE : Hid (firstE (((bef ++ [(⟨d, B, it, .slice p4 it.e.args.length k4, .slice p7 it.ws.length k7, .slice p8 it.it.length k8, .slice p9 it.el.length k9, .slice p10 it.bf.length k10, .slice p11 it.af.length k11, mb, hd, hv⟩ : Pn w.heap.size W0)]).map Pn.pl).map fltP) = 0) := Lib.hid (by rw [HMP.out]; exact hf); clear hf
        gi_wp2_with (refine ⟨trivial, ?_⟩; gi_at_call 40; refine (FC.out _).mono ?_; rintro e w2 ⟨rfl, hb⟩; have bR3 := bxStay BR2.out hb; have HBc := Lib.hid hb; have BR3 := Lib.hid bR3; clear hb bR3)
        exact ⟨keepsFrom_below HBc.out, KeepC.of_below HBc.out, ⟨⟨BR3.out, HE.out⟩, HB2.out.trans (HBc.out.mono hsb)⟩⟩
      · have HE : Hid (firstE (((bef ++ [(⟨d, B, it, .slice p4 it.e.args.length k4, .slice p7 it.ws.length k7, .slice p8 it.it.length k8, .slice p9 it.el.length k9, .slice p10 it.bf.length k10, .slice p11 it.af.length k11, mb, hd, hv⟩ : Pn w.heap.size W0)]).map Pn.pl).map fltP) = fltI d it) := Lib.hid HMP.out; obtain ⟨E, hE0⟩ : ∃ E, fltI d it = E := ⟨_, rfl⟩; rw [hE0] at FC HE hf; clear hE0; have hE : (E != 0) = true := (by simpa using hf); have HNE := Lib.hid hf; clear hf
        gi_wp2_with (refine ⟨trivial, ?_⟩; gi_at_call 40; refine (FC.out _).mono ?_; rintro e w2 ⟨rfl, hb⟩; have bR3 := bxStay BR2.out hb; have cR := bR3.cell; have fR := bR3.frozen; have HBc := Lib.hid hb; have BR3 := Lib.hid bR3; clear hb bR3)
        refine ⟨(keepsFrom_below HBc.out).trans ((KeepsOthers.setCell _ _ _).from _), (KeepC.of_below HBc.out).set (Nat.le_refl _) (by omega) _, ⟨?_, rfl, by rw [HE.out]; exact HNE.out⟩, (HB2.out.trans (HBc.out.mono hsb)).setCell (p := ⟨w.heap.size, 0, none⟩) (by simp) _⟩; rw [HE.out]; exact BR3.out.set _
    case done =>
      rintro D zs W hD hzs ⟨⟨bR1, hf1⟩, hB1⟩ hK; have HV3 : Hid (0 = validI l0) := Lib.hid (by rw [HV2.out]; unfold firstV; rw [← hzs, hf1]); have HBW := Lib.hid hB1; have cR := bR1.cell; have fR := bR1.frozen; have HKD := Lib.hid hK; clear bR1 hf1 hzs hB1
      gi_wp2
      have hK' := (KeepsOthers.setCell W ⟨w.heap.size, 0, none⟩ (.int .i64 0)).same D _ HKD.out rfl; refine ⟨by simp, .inl ⟨_, _, rfl, run_takeDeferred hK', ?_⟩⟩; have hc5 := cell_kept (World.cell?_setCell_same' W ⟨w.heap.size, 0, none⟩ (.int .i64 0) (by rw [cR]; rfl)) (grownBy_putObj' _ D (.deferred none)) (fun r e => by cases e; exact ⟨_, hK', rfl⟩); refine ⟨.int .i64 0, ?_, by rw [HV3.out], (HBW.out.setCell (p := ⟨w.heap.size, 0, none⟩) (by simp) _).trans (belowK_b (w := w) (Nat.le_refl _) _ D _ _ (by omega) hK' rfl rfl)⟩; simp [results, Tryz.results17, go_sem, hc5]
    case stop =>
      rintro D c bef W hD hpre ⟨⟨bR1, rfl, hne⟩, hB1⟩ hK; have HV3 : Hid (firstE ((bef.map Pn.pl).map fltP) = validI l0) := Lib.hid (by rw [HV2.out]; unfold firstV; rw [first_of hpre rfl hne]); have HBW := Lib.hid hB1; have cR := bR1.cell; clear bR1 hne hpre hB1
      gi_wp2
      refine ⟨by simp, .inl ⟨_, _, rfl, run_takeDeferred hK, ?_⟩⟩; have hc5 := cell_kept cR (grownBy_putObj' _ D (.deferred none)) (fun r e => by cases e; exact ⟨_, hK, rfl⟩); refine ⟨.int .i64 (firstE ((bef.map Pn.pl).map fltP)), ?_, by rw [HV3.out], HBW.out.trans (belowK_b (w := w) (Nat.le_refl _) W D _ _ (by omega) hK rfl rfl)⟩; simp [results, Tryz.results17, go_sem, hc5]
end Go.Proofs.YtpejflgdehioaaaGreatDoor.ItW
namespace Go.Proofs.YtpejflgdehioaaaGreatDoor.ItW
open Go Go.RowKit Go.Shelf Go.Proofs.YtpejflgdehioaaaGreatDoor.LexW Go.Proofs.YtpejflgdehioaaaGreatDoor.LexM Go.Proofs.YtpejflgdehioaaaGreatDoor.ExM Go.Proofs.YtpejflgdehioaaaGreatDoor.ExW Go.Proofs.YtpejflgdehioaaaGreatDoor.ItM
open Go.Proofs.YtpejflgdehioaaaGreatDoor.ClM (Fld firstE firstE_zero)
attribute [local go_sem] Oper.semAt_some
theorem mem_memB (l : List ByteArray) (s : ByteArray) : memB l s = true ↔ s ∈ l := by
  unfold memB; rw [List.any_eq_true]; constructor
  · rintro ⟨t, ht, e⟩; rw [← same_eq e]; exact ht
  · intro h; exact ⟨s, h, by simp [ClM.same]⟩
open Classical in
theorem dec_memB (l : List ByteArray) (s : ByteArray) : decide (s ∈ l) = memB l s := by
  rw [Bool.eq_iff_iff, decide_eq_true_eq, mem_memB]
theorem addsN_snoc (l ns : List ByteArray) (s : ByteArray) : addsN l (ns ++ [s]) = ItM.addN (addsN l ns) s := by unfold addsN; rw [List.foldl_append]; rfl
theorem addsN_len (l ns : List ByteArray) : (addsN l ns).length ≤ l.length + ns.length := by
  induction ns generalizing l with
  | nil => simp [addsN]
  | cons a r ih =>
    show (addsN (ItM.addN l a) r).length ≤ _; have h1 := ih (ItM.addN l a); have h2 : (ItM.addN l a).length ≤ l.length + 1 := (by unfold ItM.addN; split <;> simp); simp only [List.length_cons]; omega
def SetM (W : World) (mb : Nat) (l : List ByteArray) : Prop := W.ownsMap Tryz.prog 9 (plainElem (H := Unit) Tryz.prog 4) mb l.length (nmD l)
theorem SetM.obj {W : World} {mb : Nat} {l : List ByteArray} (h : SetM W mb l) : ∃ es ck, W.heap[mb]? = some (.map es ck) := by
  obtain ⟨es, ck, hb, _⟩ := h; exact ⟨es, ck, hb⟩
theorem SetM.lt {W : World} {mb : Nat} {l : List ByteArray} (h : SetM W mb l) : mb < W.heap.size := by
  obtain ⟨es, ck, hb⟩ := h.obj; exact (Array.getElem?_eq_some_iff.1 hb).1
theorem SetM.kept {W W' : World} {mb : Nat} {l : List ByteArray} {row : Option Nat} (h : SetM W mb l) (hg : W.grownBy W' row) (hr : some mb ≠ row) : SetM W' mb l := World.ownsMap.kept h hg hr
theorem SetM.below {W W' : World} {mb : Nat} {l : List ByteArray} (h : SetM W mb l) (hb : Below W.heap.size W W') : SetM W' mb l := h.kept (grown_of_below hb) (fun e => by cases e)
theorem SetM.look {W : World} {mb : Nat} {l : List ByteArray} (h : SetM W mb l) (t : ByteArray) (ht : t.size ≤ 140737488351232) : (Instr.lookup 67 (.map (some mb)) (.string t) false).run Tryz.prog W = .ok (.bool (memB l t)) W := by
  have := look_nm h t (Nat.le_trans ht (by decide)); rw [dec_memB] at this; exact this
theorem SetM.put {W : World} {mb : Nat} {l : List ByteArray} (h : SetM W mb l) (hn : l.length ≤ 1000000000) (t : ByteArray) (ht : t.size ≤ 140737488351232) : ∃ W', (Instr.mapUpdate 67 (.map (some mb)) (.string t) (.bool true)).run Tryz.prog W = .ok () W' ∧ SetM W' mb (l ++ [t]) ∧ W.grownBy W' (some mb) := by
  obtain ⟨W', hr, ho, hg⟩ := World.ownsMap.update h (Maps.string_keyed Tryz.underlying9) Tryz.underlying67 (Nat.lt_of_le_of_lt hn (by decide)) (Go.WideMaps.keyOf_string_mk Tryz.underlying9 (Nat.le_trans ht (by decide))) (plainElem_bool Tryz.underlying4 true); refine ⟨W', hr, ?_, hg⟩; unfold SetM; rw [nmD_snoc, List.length_append]; exact ho
theorem setM_own {α : Type} {B2 mb : Nat} (hlt : mb < B2) (f : α → List ByteArray) : OwnFrom B2 (fun (s : α) W => SetM W mb (f s)) := fun _ _ _ _ hs hg hr => hs.kept hg (fun e => by have := (hr _ e.symm).1; omega)
theorem own_len_le {x : It} (h : Nd1 x) (B : List ByteArray) : (ownN B x).length ≤ 20000 := by
  unfold ownN; have h1 : (exN B x.e).length ≤ 10000 := (by have h1 := nmL_len B (pre 1 x.e); rw [pre_len] at h1; have := h.1; unfold exN nmL at *; omega); split
  · omega
  · split
    · simp
    · split
      · rw [List.length_append]; have := h.2.2.1; have := h.2.2.2; omega
      · simp
structure HeldG (B lb X Y : Nat) (l : List ByteArray) (W : World) : Prop where
  h : ∃ v, Boxed W lb 27 v ∧ W.ownsRow B 9 1 v l.length (l.map Value.string) ∧ ∀ b, v.ownBlock = some b → b < X ∨ Y ≤ b
theorem HeldL.gap {B lb X Y : Nat} {l : List ByteArray} {W W' : World} (h : HeldL B lb l W) (hX : W.heap.size ≤ X) (hb : Below W.heap.size W W') : HeldG B lb X Y l W' := by
  obtain ⟨v, h1, h2⟩ := h.h; refine ⟨v, bxStay h1 hb, own_later h2 hb, fun b eb => .inl ?_⟩; rcases h2.2 with ⟨rfl, _⟩ | ⟨g, cap, cur, rfl, _, hg, _⟩
  · simp [Value.ownBlock] at eb
  · simp only [Value.ownBlock, Option.some.injEq] at eb; subst eb; have := (Array.getElem?_eq_some_iff.1 hg).1; omega
theorem HeldG.plain {B lb X Y : Nat} {l : List ByteArray} {W : World} (h : HeldG B lb X Y l W) : HeldL B lb l W := by
  obtain ⟨v, h1, h2, _⟩ := h.h; exact ⟨v, h1, h2⟩
theorem HeldG.turn {B lb X Y mb : Nat} {l : List ByteArray} {W W' : World} (h : HeldG B lb X Y l W) (hg : W.grownBy W' (some mb)) (hm : ∃ es ck, W.heap[mb]? = some (.map es ck)) : HeldG B lb X Y l W' := by
  obtain ⟨v, h1, h2, h3⟩ := h.h; obtain ⟨es, ck, hm⟩ := hm; refine ⟨v, h1.kept hg (fun e => by cases e; rw [show W.heap[lb]? = _ from h1] at hm; cases hm), h2.kept hg ?_, h3⟩; rcases h2.2 with ⟨rfl, _⟩ | ⟨g, cap, cur, rfl, _, hgb, _⟩
  · exact .inl rfl
  · refine (.inr fun e => ?_); simp only [Value.ownBlock, Option.some.injEq] at e; subst e; rw [hgb] at hm; cases hm
structure Kept5 (B X Y n₁ B0 : Nat) (A W : World) : Prop where
  kc : KeepC B n₁ A W
  kf : KeepsFrom B0 A W
  be : Below B A W
  nb : ∀ b, X ≤ b → b < Y → W.heap[b]? = A.heap[b]?
theorem Kept5.refl (B X Y n₁ B0 : Nat) (A : World) : Kept5 B X Y n₁ B0 A A := ⟨KeepC.refl _ _ _, KeepsFrom.refl _ _, Below.refl _ _, fun _ _ _ => rfl⟩
theorem Kept5.trans {B X Y n₁ B0 : Nat} {A W W' : World} (h : Kept5 B X Y n₁ B0 A W) (k : Kept5 B X Y n₁ B0 W W') : Kept5 B X Y n₁ B0 A W' := ⟨h.kc.trans k.kc, h.kf.trans k.kf, h.be.trans k.be, fun b h1 h2 => (k.nb b h1 h2).trans (h.nb b h1 h2)⟩
theorem Kept5.turn {B X Y n₁ B0 mb : Nat} {W W' : World} (hg : W.grownBy W' (some mb)) (hB : B ≤ mb) (h1 : mb < n₁) (h0 : mb < B0) (hX : mb < X) (hY : Y ≤ W.heap.size) (hW : B ≤ W.heap.size) : Kept5 B X Y n₁ B0 W W' :=
  ⟨KeepC.grown hg (fun b e => by cases e; exact ⟨hB, .inl h1⟩), KeepsFrom.of_grownBy hg (fun j e => by cases e; exact h0), (Below.refl B W).grown hg hW (fun k e => by cases e; exact hB), fun b hb1 hb2 => hg.block b (by omega) (fun e => by cases e; omega)⟩
theorem HeldG.step {B lb X Y n₁ B0 : Nat} {l : List ByteArray} {W : World} {s : ByteArray} {v v' : Value} {w2 : World} (hv1 : Boxed W lb 27 v) (hrow1 : W.ownsRow B 9 1 v l.length (l.map Value.string)) (hgap : ∀ b, v.ownBlock = some b → b < X ∨ Y ≤ b) (hlB : lb < X) (hBl : B ≤ lb) (hn1 : lb < n₁) (hX : X ≤ Y) (hY : Y ≤ W.heap.size)
    (hown' : w2.ownsRow B 9 1 v' (l.length + 1) (l.map Value.string ++ [.string s])) (hgrow : (W.alloc (.cells #[.string s] 9)).grownBy w2 v.ownBlock) (hnew : v'.ownBlock = v.ownBlock ∨ v'.ownBlock = some (W.alloc (.cells #[.string s] 9)).heap.size) :
    ∃ g' cap', v' = .slice (some ⟨g', 0, none⟩) (l.length + 1) cap' ∧ w2.cell? ⟨lb, 0, none⟩ = some v ∧ w2.frozen? ⟨lb, 0, none⟩ = false ∧ HeldG B lb X Y (l ++ [s]) (w2.setCell ⟨lb, 0, none⟩ v') ∧ Kept5 B X Y n₁ B0 W (w2.setCell ⟨lb, 0, none⟩ v') := by
  obtain ⟨g', cap', rfl⟩ := ownsRow_succ hown'; obtain ⟨hv2, hv3, hr2, hk2, hb2⟩ := hv1.appended (by decide) hrow1 (by omega) (by omega) hown' hgrow; have hsa : (W.alloc (.cells #[.string s] 9)).heap.size = W.heap.size + 1 := (by simp); refine ⟨g', cap', rfl, hv2.cell, hv2.frozen, ⟨⟨_, hv3, by rw [List.length_append, List.map_append]; exact hr2, fun b eb => ?_⟩⟩, ?_, hk2.from _, hb2, fun b h1 h2 => ?_⟩
  · rcases hnew with h | h
    · rw [h] at eb; exact hgap b eb
    · rw [h] at eb; cases eb; right; omega
  · exact ((KeepC.of_below (ba _ _)).trans (KeepC.grown hgrow fun b eb => by obtain ⟨q1, q2⟩ := own_notOk hrow1 _ b eb; exact ⟨q1, .inr q2⟩)).set (by omega) hn1 _
  · rw [Below.heap_setCell _ _ _ _ (by show b ≠ lb; omega)]; refine (hgrow.block b (by omega) (fun e => by rcases hgap b e.symm with h | h <;> omega)).trans ?_; exact Below.heap_alloc W _ b (by omega)
set_option maxRecDepth 100000 in
set_option maxHeartbeats 16000000 in
theorem itemNames_any (l0 : List It) (v : Value) (w : World) (hx : ItsA w.heap.size w v l0) (hsz : iszs l0 ≤ 10000) (hrs : RsL l0) :
    Calls Tryz.prog 15 #[v] w fun e w' => ∃ v', e = .returned v' ∧ w'.ownsRow w.heap.size 9 1 v' (namesI l0).length ((namesI l0).map Value.string) ∧ Below w.heap.size w w' := by
  obtain ⟨p, cap, V, rfl, hri⟩ := hx.form; have HX := Lib.hid hx; have HRS : Hid (∀ q ∈ wks 0 [] l0, Nd1 q.x) := Lib.hid (rs_wks l0 0 [] hrs); have EV : Hid (namesI l0 = addsN [] ((wks 0 [] l0).flatMap ownP)) := Lib.hid rfl; clear hx hrs hri; generalize l0.length = K at *
  obtain ⟨i0, hi, hz0, hz1, hz2⟩ := info_parts infoS; have hmm := @run_makeMap Tryz.prog; refine (callsIn_wide (n := 9)).1 ?_; refine callsIn_of_wp_marks Tryz.func15 rfl trivial ?_ rfl; simp only [Tryz.ntmps15, List.size_toArray, List.length_cons, List.length_nil, Nat.reduceAdd, Nat.reduceSub, Array.replicate_succ, Array.replicate_zero, List.push_toArray, List.append_toArray, List.nil_append, List.cons_append]
  gi_wp2_with (refine ⟨trivial, ?_⟩; gi_at_call 36; refine (constraints_in Fence.wide _ trivial rfl _ _ _ _).mono ?_; rintro e w' ⟨rfl, rfl⟩)
  have bL := (((Boxed.new w 27 (.slice none 0 0)).alloc (.map #[] 0)).alloc (.cells #[.map (some (w.heap.size + 1))] 67)).alloc (.cells #[.slice p K cap] 22); have hm0 : SetM (((w.alloc (.cells #[.slice none 0 0] 27)).alloc (.map #[] 0)).alloc (.cells #[.map (some (w.heap.size + 1))] 67)) (w.heap.size + 1) [] := by
    have := SetM.below (l := []) (World.ownsMap_made (w.alloc (.cells #[.slice none 0 0] 27)) Tryz.prog 9 (plainElem (H := Unit) Tryz.prog 4)) (ba _ (.cells #[.map (some (w.heap.size + 1))] 67)); rw [World.size_alloc] at this; exact this
  have hm1 := hm0.below (ba _ (.cells #[.slice p K cap] 22)); have bM := (Boxed.new ((w.alloc (.cells #[.slice none 0 0] 27)).alloc (.map #[] 0)) 67 (.map (some (w.heap.size + 1)))).alloc (.cells #[.slice p K cap] 22); have bI := Boxed.new (((w.alloc (.cells #[.slice none 0 0] 27)).alloc (.map #[] 0)).alloc (.cells #[.map (some (w.heap.size + 1))] 67)) 22 (.slice p K cap); have hB0 : Below w.heap.size w ((((w.alloc (.cells #[.slice none 0 0] 27)).alloc (.map #[] 0)).alloc (.cells #[.map (some (w.heap.size + 1))] 67)).alloc (.cells #[.slice p K cap] 22)) := ((((Below.refl _ w).alloc (Nat.le_refl _) _).alloc (by simp) _).alloc (by simp; omega) _).alloc (by simp; omega) _; have hz : ((((w.alloc (.cells #[.slice none 0 0] 27)).alloc (.map #[] 0)).alloc (.cells #[.map (some (w.heap.size + 1))] 67)).alloc (.cells #[.slice p K cap] 22)).heap.size = w.heap.size + 4 := (by simp); simp only [World.size_alloc, Nat.add_assoc, Nat.reduceAdd] at bM bI; simp only [Nat.add_assoc, Nat.reduceAdd]; obtain ⟨W0, hW0⟩ : ∃ W0, ((((w.alloc (.cells #[.slice none 0 0] 27)).alloc (.map #[] 0)).alloc (.cells #[.map (some (w.heap.size + 1))] 67)).alloc (.cells #[.slice p K cap] 22)) = W0 := ⟨_, rfl⟩; rw [hW0] at bL bM bI hm1 hB0 hz ⊢; clear hW0 hm0
  refine range_tells rfl (by decide) (gf := 65) (lb := #[.pointer (some ⟨w.heap.size + 3, 0, none⟩)]) rfl trivial (enters_of Tryz.func65 (by kernel_rfl) rfl)
    (constraints_tells Fence.wide rfl _ trivial trivial rfl w.heap.size (w.heap.size + 3) (w.heap.size + 3) (by omega) l0 hsz (fun q => Nd1 q.x) HRS.out _ W0 (by omega) bI (HX.out.under hB0)) keepC_t (keepC_b (by omega)) (fun _ => rfl)
    (fun bef W => (((HeldL w.heap.size w.heap.size (addsN [] ((bef.map Pn.pl).flatMap ownP)) W ∧ SetM W (w.heap.size + 1) (addsN [] ((bef.map Pn.pl).flatMap ownP))) ∧ Boxed W (w.heap.size + 2) 67 (.map (some (w.heap.size + 1)))) ∧ ((bef.map Pn.pl).flatMap ownP).length ≤ 20000 * bef.length) ∧ Below w.heap.size w W)
    (fun _ _ _ => False)
    (OwnFrom.and (OwnFrom.and (OwnFrom.and (OwnFrom.and (heldL_own _ _ _ _) (setM_own (by omega) _)) (Own.from (boxed_own _ _ _) _)) (ownFrom_pure _ _)) (ownFrom_below (Nat.le_refl _) (by omega)))
    (fun _ _ _ _ _ hs _ _ => hs)
    ⟨⟨⟨⟨⟨_, bL, World.ownsRow_nil _ _ _ _⟩, hm1⟩, bM⟩, by simp⟩, hB0⟩ ?round ?done ?stop
  case round =>
    rintro l bef x W hl ⟨⟨⟨⟨hL1, hm1⟩, bM1⟩, hn1⟩, hB1⟩ htell hlt; have hnd := htell.2; have HSN : Hid (((bef ++ [x]).map Pn.pl).flatMap ownP = (bef.map Pn.pl).flatMap ownP ++ ownP x.pl) := Lib.hid (by rw [List.map_append, List.flatMap_append, List.map_cons, List.map_nil, List.flatMap_cons, List.flatMap_nil, List.append_nil]); generalize (bef.map Pn.pl).flatMap ownP = A0 at *
    have hWs := hB1.size; have hml := hm1.lt; have hl2 := bM1.lt; have HL1 := Lib.hid hL1; have HM1 := Lib.hid hm1; have HBM1 := Lib.hid bM1; have HBW := Lib.hid hB1; obtain ⟨bn, hbm⟩ := htell.1; have HBM := Lib.hid hbm; clear htell hL1 hm1 bM1 hB1 hbm; have hpl : x.pl = ⟨x.d, x.B, x.x⟩ := rfl; rw [hpl] at HSN hnd; obtain ⟨d, B, it, a4, a7, a8, a9, a10, a11, mb, hd, hv⟩ := x; simp only at HSN hnd hpl HBM ⊢; obtain ⟨p4, k4, p7, k7, p8, k8, p9, k9, p10, k10, p11, k11, rfl, rfl, rfl, rfl, rfl, rfl⟩ := hv.slices; rw [zip2]; have b1 : Below W.heap.size W ((W.alloc (.cells #[.int .i64 d, .map (some mb)] 70)).alloc (.cells (ics it.kd it.e.op it.e.n it.e.nm (.slice p4 it.e.args.length k4) it.nm it.ix (.slice p7 it.ws.length k7) (.slice p8 it.it.length k8) (.slice p9 it.el.length k9) (.slice p10 it.bf.length k10) (.slice p11 it.af.length k11)).toArray 55)) := ((Below.refl _ _).alloc (Nat.le_refl _) _).alloc (by simp) _; have FP := (Blk.new W [.int .i64 d, .map (some mb)] 70).alloc (.cells (ics it.kd it.e.op it.e.n it.e.nm (.slice p4 it.e.args.length k4) it.nm it.ix (.slice p7 it.ws.length k7) (.slice p8 it.it.length k8) (.slice p9 it.el.length k9) (.slice p10 it.bf.length k10) (.slice p11 it.af.length k11)).toArray 55); have FI := Blk.new (W.alloc (.cells #[.int .i64 d, .map (some mb)] 70)) (ics it.kd it.e.op it.e.n it.e.nm (.slice p4 it.e.args.length k4) it.nm it.ix (.slice p7 it.ws.length k7) (.slice p8 it.it.length k8) (.slice p9 it.el.length k9) (.slice p10 it.bf.length k10) (.slice p11 it.af.length k11)) 55; rw [World.size_alloc] at FI; have B1 := Lib.hid b1; have FP1 := Lib.hid FP; have FI1 := Lib.hid FI; clear b1 FP FI
    gi_wp2
    refine ⟨keepsFrom_below B1.out, KeepC.of_below B1.out, ⟨⟨⟨⟨HL1.out.later B1.out, HM1.out.below B1.out⟩, bxStay HBM1.out B1.out⟩, hn1⟩, HBW.out.trans (B1.out.mono hWs)⟩, ?_⟩; rintro Wb hnear ⟨⟨⟨⟨hL2, hm2⟩, bM2⟩, _⟩, hB2⟩; have d1 := hnear.cell (FP1.out.c 1 _ rfl); have e0 := hnear.cell (FI1.out.c 0 _ rfl); have e1 := hnear.cell (FI1.out.c 1 _ rfl); have e2 := hnear.cell (FI1.out.c 2 _ rfl); have e3 := hnear.cell (FI1.out.c 3 _ rfl); have e4 := hnear.cell (FI1.out.c 4 _ rfl); have e5 := hnear.cell (FI1.out.c 5 _ rfl); have e6 := hnear.cell (FI1.out.c 6 _ rfl); have e7 := hnear.cell (FI1.out.c 7 _ rfl); have e8 := hnear.cell (FI1.out.c 8 _ rfl); have e9 := hnear.cell (FI1.out.c 9 _ rfl); have e10 := hnear.cell (FI1.out.c 10 _ rfl); have e11 := hnear.cell (FI1.out.c 11 _ rfl); have hsb := hB2.size; have hbm2 : BMap Wb (.map (some mb)) B := .inr ⟨mb, bn, rfl, (HBM.out.below B1.out).near hnear⟩; have NC : Hid (∀ n, CallsIn (Fence.wide.inRound l) n Tryz.prog 37 #[iv it.kd it.e.op it.e.n it.e.nm (.slice p4 it.e.args.length k4) it.nm it.ix (.slice p7 it.ws.length k7) (.slice p8 it.it.length k8) (.slice p9 it.el.length k9) (.slice p10 it.bf.length k10) (.slice p11 it.af.length k11), .map (some mb)] Wb (NamesP (ownN B it) Wb)) :=
      Lib.hid fun n => CallsIn.inRound l (callsIn_wide.2 (namesOf_any (some mb) B it _ _ _ _ _ _ w.heap.size Wb hbm2 (hv.kept (below_in hB0 hB2) (Nat.le_refl _)) hsb hnd))
    have HOL := Lib.hid (own_len_le hnd B); have HL2 := Lib.hid hL2; have HM2 := Lib.hid hm2; have BM2 := Lib.hid bM2; have HB2' := Lib.hid hB2; have hml2 := hm2.lt; have hbl2 := bM2.lt; have hgs := hnear.size; have hWb : W0.heap.size ≤ Wb.heap.size := (by rw [hgs]; simp; have := (show W0.heap.size ≤ l from hl); omega); clear hB2 hnear bM2 hL2 hm2 hbm2 hgs; have EON : Hid (ownP ⟨d, B, it⟩ = ownN B it) := Lib.hid rfl; generalize ownN B it = ns at *
    obtain ⟨KN, hKN⟩ : ∃ n, ns.length = n := ⟨_, rfl⟩; have HKN := Lib.hid hKN; have hol := HOL.out; rw [hKN] at hol; have hbl : bef.length ≤ 10000 := (by omega); clear hKN
    gi_wp2_with (refine ⟨trivial, ?_⟩; gi_at_call 37; refine (NC.out _).mono ?_; rintro e w2 ⟨v', rfl, hst, hfr, hb⟩; obtain ⟨pn, cn, rfl, z1, z2, z3, hpn⟩ := hst; rw [HKN.out] at z1 z2 hpn hfr; rw [HKN.out]; have HPN := Lib.hid hpn; have HZ3 := Lib.hid z3; have HFR := Lib.hid hfr; have HBc := Lib.hid hb; have hs2 := hb.size; have HL3 : Hid (HeldG w.heap.size w.heap.size Wb.heap.size w2.heap.size (addsN [] A0) w2) := Lib.hid (HL2.out.gap (Nat.le_refl _) hb); have HM3 := Lib.hid (HM2.out.below hb); have BM3 := Lib.hid (bxStay BM2.out hb); clear hb hpn z3 hfr)
    gi_loopw [19] (fun i wr => ∃ k : Nat, k ≤ KN ∧ i = .int .i64 k ∧ Hid (HeldG w.heap.size w.heap.size Wb.heap.size w2.heap.size (addsN [] (A0 ++ ns.take k)) wr) ∧ Hid (SetM wr (w.heap.size + 1) (addsN [] (A0 ++ ns.take k))) ∧ Hid (Boxed wr (w.heap.size + 2) 67 (.map (some (w.heap.size + 1)))) ∧ Hid (Kept5 w.heap.size Wb.heap.size w2.heap.size (w.heap.size + 3) W0.heap.size w2 wr)) (fun i _ => KN - (intOf i).toNat)
    case atStart => exact ⟨0, Nat.zero_le _, rfl, Lib.hid (by rw [List.take_zero, List.append_nil]; exact HL3.out), Lib.hid (by rw [List.take_zero, List.append_nil]; exact HM3.out), BM3, Lib.hid (Kept5.refl _ _ _ _ _ _)⟩
    case round =>
      obtain ⟨k, hk, rfl, HG, HS, HBX, HKP⟩ := hrel; by_cases hlt2 : k < KN
      · obtain ⟨b, off, rfl, hbs, hcell⟩ := HPN.out (by omega); obtain ⟨s, hsk⟩ : ∃ s, ns[k]? = some s := ⟨_, List.getElem?_eq_getElem (by rw [HKN.out]; exact hlt2)⟩; have hss := HZ3.out s (List.mem_of_getElem? hsk); have hbf : Wb.heap.size ≤ b := HFR.out _ _ _ rfl; have c0 : wr.cell? ⟨b, off + k, none⟩ = some (.string s) := (World.cell?_of_block (w := w2) (HKP.out.nb b hbf hbs)).trans (hcell k s hsk); have HTK : Hid (addsN [] (A0 ++ ns.take (k + 1)) = ItM.addN (addsN [] (A0 ++ ns.take k)) s) := Lib.hid (by
          obtain ⟨h3, h4⟩ := List.getElem?_eq_some_iff.1 hsk; rw [List.take_succ_eq_append_getElem h3, h4, ← List.append_assoc, addsN_snoc])
        have hLb : (addsN [] (A0 ++ ns.take k)).length ≤ 1000000000 := by
          have h1 := addsN_len [] (A0 ++ ns.take k); rw [List.length_append, List.length_take, HKN.out] at h1; simp only [List.length_nil] at h1; omega
        have cM := HBX.out.cell; have hkws := HKP.out.kc.size; clear hcell hsk; generalize addsN [] (A0 ++ ns.take k) = L1 at *
        have hlk := HS.out.look s hss; obtain ⟨M, hM⟩ : ∃ M, memB L1 s = M := ⟨_, rfl⟩; rw [hM] at hlk; cases M
        · have HT2 : Hid (addsN [] (A0 ++ ns.take (k + 1)) = L1 ++ [s]) := Lib.hid (by rw [HTK.out]; unfold ItM.addN; rw [if_neg (by rw [hM]; simp)]); clear hM; obtain ⟨w3, hup, hm3, hg3⟩ := HS.out.put hLb s hss; have HG3 := Lib.hid (HG.out.turn hg3 HS.out.obj); have hws3 := hg3.size; have HK3 := Lib.hid (HKP.out.trans (Kept5.turn hg3 (by omega) (by omega) (by omega) (by omega) (by omega) (by omega))); have HBX3 : Hid (Boxed w3 (w.heap.size + 2) 67 (.map (some (w.heap.size + 1)))) := Lib.hid ((hg3.block _ HBX.out.lt (fun e => by simp only [Option.some.injEq] at e; omega)).trans HBX.out); have HM3' := Lib.hid hm3; clear hm3 hg3; obtain ⟨vv, hv1, hrow1, hgap⟩ := HG3.out.h; have hcV := hv1.cell; have HROW := Lib.hid (hrow1.alloc (.cells #[.string s] 9)); have FIN : Hid (∀ v' w4, w4.ownsRow w.heap.size 9 1 v' (L1.length + 1) (L1.map Value.string ++ [.string s]) → (w3.alloc (.cells #[.string s] 9)).grownBy w4 vv.ownBlock → (v'.ownBlock = vv.ownBlock ∨ v'.ownBlock = some (w3.alloc (.cells #[.string s] 9)).heap.size) → ∃ g' cap', v' = .slice (some ⟨g', 0, none⟩) (L1.length + 1) cap' ∧ w4.cell? ⟨w.heap.size, 0, none⟩ = some vv ∧ w4.frozen? ⟨w.heap.size, 0, none⟩ = false ∧
              (HeldG w.heap.size w.heap.size Wb.heap.size w2.heap.size (L1 ++ [s]) (w4.setCell ⟨w.heap.size, 0, none⟩ v') ∧ SetM (w4.setCell ⟨w.heap.size, 0, none⟩ v') (w.heap.size + 1) (L1 ++ [s]) ∧ Boxed (w4.setCell ⟨w.heap.size, 0, none⟩ v') (w.heap.size + 2) 67 (.map (some (w.heap.size + 1))) ∧ Kept5 w.heap.size Wb.heap.size w2.heap.size (w.heap.size + 3) W0.heap.size w2 (w4.setCell ⟨w.heap.size, 0, none⟩ v'))) := Lib.hid (fun v' w4 ho hg hn => by
            obtain ⟨g', cap', e, c1, f1, hh, kk⟩ := HeldG.step (n₁ := w.heap.size + 3) (B0 := W0.heap.size) hv1 hrow1 hgap (by omega) (Nat.le_refl _) (by omega) hs2 (by omega) ho hg hn; refine ⟨g', cap', e, c1, f1, hh, ?_, ?_, HK3.out.trans kk⟩
            · obtain ⟨es, ck, hmo⟩ := HM3'.out.obj; refine (((HM3'.out.below (ba _ (.cells #[.string s] 9))).kept hg ?_).kept (grownBy_setCell' _ _ _) (fun e => by simp only [Option.some.injEq] at e; omega)); intro e; rcases hrow1.2 with ⟨rfl, _⟩ | ⟨g2, cap2, cur, rfl, _, hgb, _⟩
              · simp [Value.ownBlock] at e
              · simp only [Value.ownBlock, Option.some.injEq] at e; rw [e, hgb] at hmo; cases hmo
            · exact ((HBX3.out.alloc _).kept hg (HBX3.out.not_row (by decide) hrow1)).other (by omega) _)
          have hbw3 : w.heap.size ≤ w3.heap.size := (by omega); clear hv1 hrow1 hgap
          gi_wp2_with (first
            | (gi_at_builtin; go_loud (refine wpListIn_append_own_at _ rfl _ _ 27 rfl w.heap.size 9 i0 (.string ⟨#[]⟩) 1 16 Tryz.underlying27 hi hz0 hz1 hz2 rfl (by decide) _ _ _ rfl HROW.out ⟨w3.heap.size, 0, none⟩ 1 1 [.string s] rfl rfl (cell_one_new _ _ _) (by simp [Value.oneCell']) (by unfold maxLen; omega) (by omega) (by simp; omega) ?_); intro v' w4 hown' hgrow _ hnew; obtain ⟨g', cap', rfl, hc1, hf1, hfin⟩ := FIN.out v' w4 hown' hgrow hnew; have HFI := Lib.hid hfin; clear hfin hown' hgrow hnew))
          go_roundw
          case rel => exact ⟨k + 1, by omega, by go_num, Lib.hid (by rw [HT2.out]; exact HFI.out.1), Lib.hid (by rw [HT2.out]; exact HFI.out.2.1), Lib.hid HFI.out.2.2.1, Lib.hid HFI.out.2.2.2⟩
          case measure => simp [intOf]; omega
        · have HT2 : Hid (addsN [] (A0 ++ ns.take (k + 1)) = L1) := Lib.hid (by rw [HTK.out]; unfold ItM.addN; rw [if_pos hM]); clear hM
          gi_wp2
          go_roundw
          case rel => exact ⟨k + 1, by omega, by go_num, Lib.hid (by rw [HT2.out]; exact HG.out), Lib.hid (by rw [HT2.out]; exact HS.out), HBX, HKP⟩
          case measure => simp [intOf]; omega
      · have HTF : Hid (addsN [] (A0 ++ ns.take k) = addsN [] (((bef ++ [(⟨d, B, it, .slice p4 it.e.args.length k4, .slice p7 it.ws.length k7, .slice p8 it.it.length k8, .slice p9 it.el.length k9, .slice p10 it.bf.length k10, .slice p11 it.af.length k11, mb, hd, hv⟩ : Pn w.heap.size W0)]).map Pn.pl).flatMap ownP)) := Lib.hid (by rw [HSN.out, EON.out, List.take_of_length_le (by rw [HKN.out]; omega)])
        gi_wp2
        refine ⟨(keepsFrom_below HBc.out).trans HKP.out.kf, (KeepC.of_below HBc.out).trans HKP.out.kc, ⟨⟨⟨⟨?_, ?_⟩, HBX.out⟩, ?_⟩, (HB2'.out.trans (HBc.out.mono hsb)).trans HKP.out.be⟩⟩
        · rw [← HTF.out]; exact HG.out.plain
        · rw [← HTF.out]; exact HS.out
        · rw [HSN.out, EON.out, List.length_append, HKN.out, List.length_append]; simp only [List.length_cons, List.length_nil]; omega
  case done =>
    rintro D zs W hD hzs ⟨⟨⟨⟨hL1, _⟩, _⟩, _⟩, hB1⟩ hK; rw [hzs] at hL1; obtain ⟨v, hv, hrow⟩ := hL1.h; have hc := hv.cell; have HR := Lib.hid hrow; have HB := Lib.hid hB1; have HKD := Lib.hid hK; clear hrow hv hzs hB1 hL1
    gi_wp2
    refine ⟨by simp, .inl ⟨_, _, rfl, run_takeDeferred HKD.out, ?_⟩⟩; exact ⟨_, results_tmp rfl _ _ _, v, rfl, by rw [EV.out]; exact ownsRow_putObj HR.out _ HKD.out rfl, HB.out.trans (belowK_b (w := w) (Nat.le_refl _) W D _ _ (by omega) HKD.out rfl rfl)⟩
  case stop =>
    rintro D c bef W _ _ h _; exact h.elim
end Go.Proofs.YtpejflgdehioaaaGreatDoor.ItW
namespace Go.Proofs.YtpejflgdehioaaaGreatDoor.ItW
open Go Go.RowKit Go.Shelf Go.Proofs.YtpejflgdehioaaaGreatDoor.LexW Go.Proofs.YtpejflgdehioaaaGreatDoor.LexM Go.Proofs.YtpejflgdehioaaaGreatDoor.ExM Go.Proofs.YtpejflgdehioaaaGreatDoor.ExW Go.Proofs.YtpejflgdehioaaaGreatDoor.ItM
open Go.Proofs.YtpejflgdehioaaaGreatDoor.ClM (Fld firstE firstE_zero)
attribute [local go_sem] Oper.semAt_some
theorem fine_all {l0 : List It} (h : validI l0 = 0) : ∀ q ∈ wks 0 [] l0, FineI q.x := by
  unfold validI at h; split at h
  · cases h
  · intro q hq; exact fine_of (d := q.d) (firstE_zero.1 h _ (List.mem_map_of_mem hq))
theorem fMap_own {α : Type} {W0 : World} {fb n : Nat} {fs : List Fld} (hlt : fb < W0.heap.size) : OwnFrom W0.heap.size (fun (_ : α) W => FMap W fb n fs) := fun _ _ _ _ hs hg hr => hs.kept hg (fun e => by have := (hr _ e.symm).1; omega)
set_option maxRecDepth 100000 in
set_option maxHeartbeats 8000000 in
theorem itemCheck_any (l0 : List It) (fs : List Fld) (hS : ∀ f ∈ fs, 0 ≤ f.sz ∧ f.sz ≤ 100) (hF : fs.length ≤ 10000) (v cv : Value) (w : World) (hx : ItsA w.heap.size w v l0) (hc : ClA w.heap.size w cv fs) (hsz : iszs l0 ≤ 10000) (hrs : RsL l0) (ht : TabI w) :
    Calls Tryz.prog 20 #[v, cv] w (tInt (checkI fs l0) w) := by
  obtain ⟨p, cap, V, rfl, hri⟩ := hx.form; have HX := Lib.hid hx; have HT := Lib.hid ht; have HRS : Hid (∀ q ∈ wks 0 [] l0, Nd1 q.x) := Lib.hid (rs_wks l0 0 [] hrs); have VC : Hid (∀ n W, Below w.heap.size w W → CallsIn Fence.wide n Tryz.prog 17 #[.slice p l0.length cap] W (tInt (validI l0) W)) := (Lib.hid fun n W hW => callsIn_wide.2 (itemValid_any l0 _ W ((HX.out.under hW).wide hW.size) hsz hrs (HT.out.later hW).tab)); have FC : Hid (∀ n W, Below w.heap.size w W → CallsIn Fence.wide n Tryz.prog 43 #[cv] W fun e w' => ∃ fb n, e = .returned (.map (some fb)) ∧ W.heap.size ≤ fb ∧ FMap w' fb n fs ∧ Below W.heap.size W w') := (Lib.hid fun n W hW => callsIn_wide.2 (fieldsOf_any fs hS hF cv W ((hc.under hW).wide hW.size))); obtain ⟨cnm, par, vf, pb, kb, cb, rfl, pf, cf, rfl, _⟩ := hc; have hK0 : l0.length ≤ 140737488351232 := (by have := hri.hl; omega); clear hx ht hrs hri; generalize l0.length = K at *
  generalize fs.length = KF at *
  have HZ := Lib.hid hsz; refine (callsIn_wide (n := 9)).1 ?_; refine callsIn_of_wp_marks Tryz.func20 rfl trivial ?_ rfl; simp only [Tryz.ntmps20, List.size_toArray, List.length_cons, List.length_nil, Nat.reduceAdd, Nat.reduceSub, Array.replicate_succ, Array.replicate_zero, List.push_toArray, List.append_toArray, List.nil_append, List.cons_append]; obtain ⟨OC, hOC⟩ : ∃ O : Obj, O = .cells #[.string cnm, .string par, .slice pf KF cf, .slice pb kb cb] 34 := ⟨_, rfl⟩; have hbR : Below w.heap.size w ((w.alloc OC).alloc (.cells #[.int .i64 0] 29)) := ((Below.refl _ _).alloc (Nat.le_refl _) _).alloc (by simp) _; have bR0 := Boxed.new (w.alloc OC) 29 (.int .i64 0); rw [World.size_alloc] at bR0; have BC0 := (Blk.new w [.string cnm, .string par, .slice pf KF cf, .slice pb kb cb] 34).alloc (.cells #[.int .i64 0] 29); subst hOC; have HBR := Lib.hid hbR; have HR0 := Lib.hid bR0; have HC0 := Lib.hid BC0; clear hbR bR0 BC0; have HV : Hid (checkI fs l0 = if validI l0 = 0 then firstC fs l0 else validI l0) := Lib.hid rfl; have HFI : Hid (validI l0 = 0 → ∀ q ∈ wks 0 [] l0, FineI q.x) := Lib.hid fine_all; generalize validI l0 = E0 at *
  by_cases h0 : E0 = 0
  · subst h0; have HV2 : Hid (checkI fs l0 = firstC fs l0) := Lib.hid (by rw [HV.out, if_pos rfl])
    gi_wp2_with (first
      | (refine ⟨trivial, ?_⟩; gi_at_call 17; refine (VC.out _ _ HBR.out).mono ?_; rintro e w1 ⟨rfl, hb⟩; have bR := bxStay HR0.out hb; have HB1 := Lib.hid (HBR.out.then_ hb); have HR1 := Lib.hid bR; have C1 := HC0.out.stay hb; have d0 := C1.c 0 _ rfl; have d1 := C1.c 1 _ rfl; have d2 := C1.c 2 _ rfl; have d3 := C1.c 3 _ rfl; clear hb bR C1)
      | (refine ⟨trivial, ?_⟩; gi_at_call 43; refine (FC.out _ _ HB1.out).mono ?_; rintro e w2 ⟨fb, fn, rfl, hfb, hfm, hb⟩; have bR := bxStay HR1.out hb; have HB2 := Lib.hid (HB1.out.then_ hb); have HR2 := Lib.hid bR; have HFM := Lib.hid hfm; clear hb bR hfm)
      | (refine ⟨trivial, ?_⟩; gi_at_call 36; refine (constraints_in Fence.wide _ trivial rfl _ _ _ _).mono ?_; rintro e w' ⟨rfl, rfl⟩))
    have hs1 := HB1.out.size; have hs2 := HB2.out.size; have hR2l := HR2.out.lt; have hfl := HFM.out.lt; have bR := (HR2.out.alloc (.cells #[.map (some fb)] 79)).alloc (.cells #[.slice p K cap] 22); have bF := (Boxed.new w2 79 (.map (some fb))).alloc (.cells #[.slice p K cap] 22); have bL := Boxed.new (w2.alloc (.cells #[.map (some fb)] 79)) 22 (.slice p K cap); have hM0 := (HFM.out.below (ba w2 (.cells #[.map (some fb)] 79))).below (ba _ (.cells #[.slice p K cap] 22)); have hB0 : Below w.heap.size w ((w2.alloc (.cells #[.map (some fb)] 79)).alloc (.cells #[.slice p K cap] 22)) := (HB2.out.alloc (by omega) _).alloc (by simp; omega) _; have hz : ((w2.alloc (.cells #[.map (some fb)] 79)).alloc (.cells #[.slice p K cap] 22)).heap.size = w2.heap.size + 2 := (by simp); simp only [World.size_alloc] at bL; obtain ⟨W0, hW0⟩ : ∃ W0, (w2.alloc (.cells #[.map (some fb)] 79)).alloc (.cells #[.slice p K cap] 22) = W0 := ⟨_, rfl⟩; rw [hW0] at bR bF bL hM0 hB0 hz ⊢; clear hW0 d0 d1 d2 d3
    refine range_tells rfl (by decide) (gf := 65) (lb := #[.pointer (some ⟨w2.heap.size + 1, 0, none⟩)]) rfl trivial (enters_of Tryz.func65 (by kernel_rfl) rfl)
      (constraints_tells Fence.wide rfl _ trivial trivial rfl w.heap.size (w.heap.size + 2) (w2.heap.size + 1) (by omega) l0 hsz (fun q => Nd1 q.x ∧ FineI q.x) (fun q hq => ⟨HRS.out q hq, HFI.out (by first | trivial | rfl) q hq⟩) _ W0 (by omega) bL (HX.out.under hB0)) keepC_t (keepC_b (by omega)) (fun _ => rfl)
      (fun bef W => (((Boxed W (w.heap.size + 1) 29 (.int .i64 0) ∧ Boxed W w2.heap.size 79 (.map (some fb))) ∧ FMap W fb fn fs) ∧ firstE ((bef.map Pn.pl).map (chkP fs)) = 0) ∧ Below w.heap.size w W)
      (fun c bef W => (Boxed W (w.heap.size + 1) 29 (.int .i64 (firstE ((bef.map Pn.pl).map (chkP fs)))) ∧ (c = .ret ∧ firstE ((bef.map Pn.pl).map (chkP fs)) ≠ 0)) ∧ Below w.heap.size w W)
      (OwnFrom.and (OwnFrom.and (OwnFrom.and (OwnFrom.and (Own.from (boxed_own _ _ _) _) (Own.from (boxed_own _ _ _) _)) (fMap_own (by omega))) (ownFrom_pure _ _)) (ownFrom_below (Nat.le_refl _) (by omega)))
      (fun c => OwnFrom.and (OwnFrom.and (Own.from (boxed_own _ _ _) _) (ownFrom_pure _ _)) (ownFrom_below (Nat.le_refl _) (by omega)))
      ⟨⟨⟨⟨bR, bF⟩, hM0⟩, rfl⟩, hB0⟩ ?round ?done ?stop
    case round =>
      rintro l bef x W hl ⟨⟨⟨⟨bR1, bF1⟩, hM1⟩, hf1⟩, hB1⟩ htell hlt; have hnd := htell.2; have HMP : Hid (firstE (((bef ++ [x]).map Pn.pl).map (chkP fs)) = chkP fs x.pl) := Lib.hid (by rw [List.map_append, List.map_append, List.map_cons, List.map_nil, List.map_cons, List.map_nil, firstE_snoc, if_pos hf1]); have hWs := hB1.size; have hl1 := bR1.lt; have hml := hM1.lt; have HBR1 := Lib.hid bR1; have HBF1 := Lib.hid bF1; have HM1 := Lib.hid hM1; have HF1 := Lib.hid hf1; have HBW := Lib.hid hB1; obtain ⟨bn, hbm⟩ := htell.1; have HBM := Lib.hid hbm; clear htell bR1 hf1 hB1 bF1 hM1 hbm; have hpl : x.pl = ⟨x.d, x.B, x.x⟩ := rfl; rw [hpl] at HMP hnd; obtain ⟨d, B, it, a4, a7, a8, a9, a10, a11, mb, hd, hv⟩ := x; simp only at HMP hnd hpl HBM ⊢; obtain ⟨p4, k4, p7, k7, p8, k8, p9, k9, p10, k10, p11, k11, rfl, rfl, rfl, rfl, rfl, rfl⟩ := hv.slices; rw [zip2]; have b1 : Below W.heap.size W ((W.alloc (.cells #[.int .i64 d, .map (some mb)] 70)).alloc (.cells (ics it.kd it.e.op it.e.n it.e.nm (.slice p4 it.e.args.length k4) it.nm it.ix (.slice p7 it.ws.length k7) (.slice p8 it.it.length k8) (.slice p9 it.el.length k9) (.slice p10 it.bf.length k10) (.slice p11 it.af.length k11)).toArray 55)) := ((Below.refl _ _).alloc (Nat.le_refl _) _).alloc (by simp) _; have FP := (Blk.new W [.int .i64 d, .map (some mb)] 70).alloc (.cells (ics it.kd it.e.op it.e.n it.e.nm (.slice p4 it.e.args.length k4) it.nm it.ix (.slice p7 it.ws.length k7) (.slice p8 it.it.length k8) (.slice p9 it.el.length k9) (.slice p10 it.bf.length k10) (.slice p11 it.af.length k11)).toArray 55); have FI := Blk.new (W.alloc (.cells #[.int .i64 d, .map (some mb)] 70)) (ics it.kd it.e.op it.e.n it.e.nm (.slice p4 it.e.args.length k4) it.nm it.ix (.slice p7 it.ws.length k7) (.slice p8 it.it.length k8) (.slice p9 it.el.length k9) (.slice p10 it.bf.length k10) (.slice p11 it.af.length k11)) 55; rw [World.size_alloc] at FI; have B1 := Lib.hid b1; have FP1 := Lib.hid FP; have FI1 := Lib.hid FI; clear b1 FP FI
      gi_wp2
      refine ⟨keepsFrom_below B1.out, KeepC.of_below B1.out, ⟨⟨⟨⟨bxStay HBR1.out B1.out, bxStay HBF1.out B1.out⟩, HM1.out.below B1.out⟩, HF1.out⟩, HBW.out.trans (B1.out.mono hWs)⟩, ?_⟩; rintro Wb hnear ⟨⟨⟨⟨bR2, bF2⟩, hM2⟩, _⟩, hB2⟩; have d1 := hnear.cell (FP1.out.c 1 _ rfl); have e0 := hnear.cell (FI1.out.c 0 _ rfl); have e1 := hnear.cell (FI1.out.c 1 _ rfl); have e2 := hnear.cell (FI1.out.c 2 _ rfl); have e3 := hnear.cell (FI1.out.c 3 _ rfl); have e4 := hnear.cell (FI1.out.c 4 _ rfl); have e5 := hnear.cell (FI1.out.c 5 _ rfl); have e6 := hnear.cell (FI1.out.c 6 _ rfl); have e7 := hnear.cell (FI1.out.c 7 _ rfl); have e8 := hnear.cell (FI1.out.c 8 _ rfl); have e9 := hnear.cell (FI1.out.c 9 _ rfl); have e10 := hnear.cell (FI1.out.c 10 _ rfl); have e11 := hnear.cell (FI1.out.c 11 _ rfl); have cF := bF2.cell; have hsb := hB2.size; have hlR := bR2.lt; have hbm2 : BMap Wb (.map (some mb)) B := .inr ⟨mb, bn, rfl, (HBM.out.below B1.out).near hnear⟩; have FC : Hid (∀ n, CallsIn (Fence.wide.inRound l) n Tryz.prog 44 #[.map (some fb), iv it.kd it.e.op it.e.n it.e.nm (.slice p4 it.e.args.length k4) it.nm it.ix (.slice p7 it.ws.length k7) (.slice p8 it.it.length k8) (.slice p9 it.el.length k9) (.slice p10 it.bf.length k10) (.slice p11 it.af.length k11), .map (some mb)] Wb (tInt (chkI fs B it) Wb)) :=
        Lib.hid fun n => CallsIn.inRound l (callsIn_wide.2 (check_any fb fs (some mb) B it _ _ _ _ _ _ w.heap.size Wb ⟨⟨fn, hM2⟩, HT.out.later hB2⟩ hbm2 (hv.kept (below_in hB0 hB2) (Nat.le_refl _)) hsb hnd.1 hnd.2))
      have BR2 := Lib.hid bR2; have BF2 := Lib.hid bF2; have HM2 := Lib.hid hM2; have HB2' := Lib.hid hB2; clear bR2 hB2 hnear bF2 hM2 hbm2; by_cases hf : chkI fs B it = 0
      · rw [hf] at FC; have HE : Hid (firstE (((bef ++ [(⟨d, B, it, .slice p4 it.e.args.length k4, .slice p7 it.ws.length k7, .slice p8 it.it.length k8, .slice p9 it.el.length k9, .slice p10 it.bf.length k10, .slice p11 it.af.length k11, mb, hd, hv⟩ : Pn w.heap.size W0)]).map Pn.pl).map (chkP fs)) = 0) := Lib.hid (by rw [HMP.out]; exact hf); clear hf
        gi_wp2_with (refine ⟨trivial, ?_⟩; gi_at_call 44; refine (FC.out _).mono ?_; rintro e w3 ⟨rfl, hb⟩; have bR3 := bxStay BR2.out hb; have bF3 := bxStay BF2.out hb; have hM3 := HM2.out.below hb; have HBc := Lib.hid hb; have BR3 := Lib.hid bR3; have BF3 := Lib.hid bF3; have HM3 := Lib.hid hM3; clear hb bR3 bF3 hM3)
        exact ⟨keepsFrom_below HBc.out, KeepC.of_below HBc.out, ⟨⟨⟨⟨BR3.out, BF3.out⟩, HM3.out⟩, HE.out⟩, HB2'.out.trans (HBc.out.mono hsb)⟩⟩
      · have HE : Hid (firstE (((bef ++ [(⟨d, B, it, .slice p4 it.e.args.length k4, .slice p7 it.ws.length k7, .slice p8 it.it.length k8, .slice p9 it.el.length k9, .slice p10 it.bf.length k10, .slice p11 it.af.length k11, mb, hd, hv⟩ : Pn w.heap.size W0)]).map Pn.pl).map (chkP fs)) = chkI fs B it) := Lib.hid HMP.out; obtain ⟨E, hE0⟩ : ∃ E, chkI fs B it = E := ⟨_, rfl⟩; rw [hE0] at FC HE hf; clear hE0; have hE : (E != 0) = true := (by simpa using hf); have HNE := Lib.hid hf; clear hf
        gi_wp2_with (refine ⟨trivial, ?_⟩; gi_at_call 44; refine (FC.out _).mono ?_; rintro e w3 ⟨rfl, hb⟩; have bR3 := bxStay BR2.out hb; have cR := bR3.cell; have fR := bR3.frozen; have HBc := Lib.hid hb; have BR3 := Lib.hid bR3; clear hb bR3)
        refine ⟨(keepsFrom_below HBc.out).trans ((KeepsOthers.setCell _ _ _).from _), (KeepC.of_below HBc.out).set (by omega) (by omega) _, ⟨?_, rfl, by rw [HE.out]; exact HNE.out⟩, (HB2'.out.trans (HBc.out.mono hsb)).setCell (p := ⟨w.heap.size + 1, 0, none⟩) (by simp) _⟩; rw [HE.out]; exact BR3.out.set _
    case done =>
      rintro D zs W hD hzs ⟨⟨⟨⟨bR1, _⟩, _⟩, hf1⟩, hB1⟩ hK; have HV3 : Hid (0 = checkI fs l0) := Lib.hid (by rw [HV2.out]; unfold firstC; rw [← hzs, hf1]); have HBW := Lib.hid hB1; have cR := bR1.cell; have fR := bR1.frozen; have HKD := Lib.hid hK; clear bR1 hf1 hzs hB1
      gi_wp2
      have hK' := (KeepsOthers.setCell W ⟨w.heap.size + 1, 0, none⟩ (.int .i64 0)).same D _ HKD.out rfl; refine ⟨by simp, .inl ⟨_, _, rfl, run_takeDeferred hK', ?_⟩⟩; have hc5 := cell_kept (World.cell?_setCell_same' W ⟨w.heap.size + 1, 0, none⟩ (.int .i64 0) (by rw [cR]; rfl)) (grownBy_putObj' _ D (.deferred none)) (fun r e => by cases e; exact ⟨_, hK', rfl⟩); refine ⟨.int .i64 0, ?_, by rw [HV3.out], (HBW.out.setCell (p := ⟨w.heap.size + 1, 0, none⟩) (by simp) _).trans (belowK_b (w := w) (Nat.le_refl _) _ D _ _ (by omega) hK' rfl rfl)⟩; simp [results, Tryz.results20, go_sem, hc5]
    case stop =>
      rintro D c bef W hD hpre ⟨⟨bR1, rfl, hne⟩, hB1⟩ hK; have HV3 : Hid (firstE ((bef.map Pn.pl).map (chkP fs)) = checkI fs l0) := Lib.hid (by rw [HV2.out]; unfold firstC; rw [first_of hpre rfl hne]); have HBW := Lib.hid hB1; have cR := bR1.cell; clear bR1 hne hpre hB1
      gi_wp2
      refine ⟨by simp, .inl ⟨_, _, rfl, run_takeDeferred hK, ?_⟩⟩; have hc5 := cell_kept cR (grownBy_putObj' _ D (.deferred none)) (fun r e => by cases e; exact ⟨_, hK, rfl⟩); refine ⟨.int .i64 (firstE ((bef.map Pn.pl).map (chkP fs))), ?_, by rw [HV3.out], HBW.out.trans (belowK_b (w := w) (Nat.le_refl _) W D _ _ (by omega) hK rfl rfl)⟩; simp [results, Tryz.results20, go_sem, hc5]
  · have HV2 : Hid (E0 = checkI fs l0) := Lib.hid (by rw [HV.out, if_neg h0]); have q0 : (E0 != 0) = true := (by simpa using h0); clear h0
    gi_wp2_with (refine ⟨trivial, ?_⟩; gi_at_call 17; refine (VC.out _ _ HBR.out).mono ?_; rintro e w1 ⟨rfl, hb⟩; have bR := bxStay HR0.out hb; have cR := bR.cell; have fR := bR.frozen; have HB1 := Lib.hid (HBR.out.then_ hb); clear hb)
    refine ⟨.int .i64 E0, ?_, ExW.tInt_mk HV2.out (HB1.out.setCell (p := ⟨w.heap.size + 1, 0, none⟩) (by simp) _)⟩; have hc5 := World.cell?_setCell_same' w1 ⟨w.heap.size + 1, 0, none⟩ (.int .i64 E0) (by rw [cR]; rfl); simp [results, Tryz.results20, go_sem, hc5]
end Go.Proofs.YtpejflgdehioaaaGreatDoor.ItW
namespace Go.Proofs.YtpejflgdehioaaaGreatDoor.ExW
open Go Go.RowKit Go.Proofs.YtpejflgdehioaaaGreatDoor.NumM Go.Proofs.YtpejflgdehioaaaGreatDoor.LexW Go.Proofs.YtpejflgdehioaaaGreatDoor.LexM Go.Proofs.YtpejflgdehioaaaGreatDoor.ExM
theorem at_names {N : Nat} {w : World} {v : Value} {e : Ex} (h : ExAt N w v e) : ∀ (l : Nat), ∀ x ∈ pre l e, x.nm.size ≤ 140737488351232 := by
  induction h with
  | mk pl cl hs hl hc hp hx ih =>
    intro l x hm; rw [pre_mk] at hm; rcases List.mem_cons.1 hm with rfl | hm
    · exact hs
    · obtain ⟨a, ha, hxa⟩ := mem_pres.1 hm; obtain ⟨i, hi⟩ := List.getElem?_of_mem ha; exact ih i a hi _ x hxa
def BoolsAt (w : World) (v : Value) (l : List Bool) : Prop :=
  ∃ p cap, v = .slice p l.length cap ∧ l.length ≤ 140737488351232 ∧ l.length ≤ cap ∧ (0 < l.length → ∃ b off, p = some ⟨b, off, none⟩ ∧ b < w.heap.size ∧ ∀ i x, l[i]? = some x → w.cell? ⟨b, off + i, none⟩ = some (.bool x))
theorem BoolsAt.later {w w' : World} {v : Value} {l : List Bool} (h : BoolsAt w v l) (hb : Below w.heap.size w w') : BoolsAt w' v l := by
  obtain ⟨p, cap, rfl, hl, hc, hx⟩ := h; refine ⟨p, cap, rfl, hl, hc, fun h0 => ?_⟩; obtain ⟨b, off, hp, hbs, hcell⟩ := hx h0; refine ⟨b, off, hp, Nat.lt_of_lt_of_le hbs hb.size, fun i t hi => ?_⟩; rw [hb.cell hbs]; exact hcell i t hi
theorem BoolsAt.nil (w : World) : BoolsAt w (.slice none 0 0) [] := ⟨none, 0, rfl, by simp, by simp, fun h => by simp at h⟩
end Go.Proofs.YtpejflgdehioaaaGreatDoor.ExW
namespace Go.Proofs.YtpejflgdehioaaaGreatDoor.ItW
open Go Go.RowKit Go.Proofs.YtpejflgdehioaaaGreatDoor.NumM Go.Proofs.YtpejflgdehioaaaGreatDoor.LexW Go.Proofs.YtpejflgdehioaaaGreatDoor.LexM Go.Proofs.YtpejflgdehioaaaGreatDoor.ExM Go.Proofs.YtpejflgdehioaaaGreatDoor.ExW Go.Proofs.YtpejflgdehioaaaGreatDoor.ItM
open Go.Proofs.YtpejflgdehioaaaGreatDoor.ClM (Fld firstE)
attribute [local go_sem ↓] Go.wp_at_zero Go.wp_at_succ
theorem innR_len (kd : Int) (ix : ByteArray) (B : List ByteArray) : (innR kd ix B).length ≤ B.length + 1 := by
  unfold innR; split
  · simp
  · exact Nat.le_succ _
theorem innR_sz {kd : Int} {ix : ByteArray} {B : List ByteArray} (h : ∀ s ∈ B, s.size ≤ 140737488351232) (hx : ix.size ≤ 140737488351232) : ∀ s ∈ innR kd ix B, s.size ≤ 140737488351232 := by
  unfold innR; split
  · intro s hs; rcases List.mem_append.1 hs with h1 | h1
    · exact h s h1
    · simp at h1; subst h1; exact hx
  · exact h
abbrev S16 (w : World) (b o : Nat) (v0 v1 v2 v3 v4 v5 v6 v7 v8 v9 v10 v11 c0 c1 c2 c3 : Value) (W : World) : Prop :=
  W.cell? ⟨b, o, none⟩ = some v0 ∧ W.cell? ⟨b, o + 1, none⟩ = some v1 ∧ W.cell? ⟨b, o + 2, none⟩ = some v2 ∧ W.cell? ⟨b, o + 3, none⟩ = some v3 ∧ W.cell? ⟨b, o + 4, none⟩ = some v4 ∧ W.cell? ⟨b, o + 5, none⟩ = some v5 ∧ W.cell? ⟨b, o + 6, none⟩ = some v6 ∧ W.cell? ⟨b, o + 7, none⟩ = some v7 ∧ W.cell? ⟨b, o + 8, none⟩ = some v8 ∧ W.cell? ⟨b, o + 9, none⟩ = some v9 ∧ W.cell? ⟨b, o + 10, none⟩ = some v10 ∧ W.cell? ⟨b, o + 11, none⟩ = some v11 ∧ W.cell? ⟨w.heap.size, 0, none⟩ = some c0 ∧ W.cell? ⟨w.heap.size, 1, none⟩ = some c1 ∧ W.cell? ⟨w.heap.size, 2, none⟩ = some c2 ∧ W.cell? ⟨w.heap.size, 3, none⟩ = some c3 ∧ Hid (Below w.heap.size w W)
theorem S16.keep {w : World} {b o : Nat} {v0 v1 v2 v3 v4 v5 v6 v7 v8 v9 v10 v11 c0 c1 c2 c3 : Value} {W W' : World} (h : S16 w b o v0 v1 v2 v3 v4 v5 v6 v7 v8 v9 v10 v11 c0 c1 c2 c3 W) (hb : Below W.heap.size W W') : S16 w b o v0 v1 v2 v3 v4 v5 v6 v7 v8 v9 v10 v11 c0 c1 c2 c3 W' := by
  obtain ⟨h0, h1, h2, h3, h4, h5, h6, h7, h8, h9, h10, h11, k0, k1, k2, k3, hB⟩ := h; have q : ∀ a v, W.cell? a = some v → W'.cell? a = some v := (fun a v h => by rw [hb.cell (World.block_lt_of_cell? W a h)]; exact h); exact ⟨q _ _ h0, q _ _ h1, q _ _ h2, q _ _ h3, q _ _ h4, q _ _ h5, q _ _ h6, q _ _ h7, q _ _ h8, q _ _ h9, q _ _ h10, q _ _ h11, q _ _ k0, q _ _ k1, q _ _ k2, q _ _ k3, Lib.hid (hB.out.trans (hb.mono hB.out.size))⟩
end Go.Proofs.YtpejflgdehioaaaGreatDoor.ItW
namespace Go.Proofs.YtpejflgdehioaaaGreatDoor.ItW
open Go Go.RowKit Go.Shelf Go.«Sort» Go.Proofs.YtpejflgdehioaaaGreatDoor.NumM Go.Proofs.YtpejflgdehioaaaGreatDoor.LexW Go.Proofs.YtpejflgdehioaaaGreatDoor.LexM Go.Proofs.YtpejflgdehioaaaGreatDoor.ExM Go.Proofs.YtpejflgdehioaaaGreatDoor.ExW Go.Proofs.YtpejflgdehioaaaGreatDoor.ItM
open Go.Proofs.YtpejflgdehioaaaGreatDoor.ClM (Fld)
theorem fin_yes {w W : World} (hb : Below w.heap.size w W) : Ending.returned (.bool true) = .returned (.bool true) ∧ Below w.heap.size w W := ⟨rfl, hb⟩
end Go.Proofs.YtpejflgdehioaaaGreatDoor.ItW
namespace Go.Proofs.YtpejflgdehioaaaGreatDoor.ItM
open Go Go.Proofs.YtpejflgdehioaaaGreatDoor.WordM Go.Proofs.YtpejflgdehioaaaGreatDoor.LexM Go.Proofs.YtpejflgdehioaaaGreatDoor.ExM
open Go.Proofs.YtpejflgdehioaaaGreatDoor.ClM (Fld)
mutual
/-- The nodes that the result has at most. -/
def wt (fs : List Fld) : Ex → Nat
  | .mk o _ s ks => if o = 24 then 2 * (szI fs s).toNat - 1 else if o = 3 then (if (hdE ks).op = 1 then 1 else (szI fs s).toNat * (wts fs ks + 4) + 1) else wts fs ks + 1
def wts (fs : List Fld) : List Ex → Nat
  | [] => 0
  | a :: r => wt fs a + wts fs r
end
def NA (e : Ex) : Prop := ∀ l, ∀ y ∈ pre l e, isAr y.op = false
end Go.Proofs.YtpejflgdehioaaaGreatDoor.ItM
namespace Go.Proofs.YtpejflgdehioaaaGreatDoor.ItW
open Go Go.RowKit Go.«Sort» Go.Proofs.YtpejflgdehioaaaGreatDoor.NumM Go.Proofs.YtpejflgdehioaaaGreatDoor.LexW Go.Proofs.YtpejflgdehioaaaGreatDoor.LexM Go.Proofs.YtpejflgdehioaaaGreatDoor.ExM Go.Proofs.YtpejflgdehioaaaGreatDoor.ExW Go.Proofs.YtpejflgdehioaaaGreatDoor.ItM
set_option maxRecDepth 100000 in
set_option maxHeartbeats 4000000 in
theorem textsL_any (l : List ByteArray) (v v' : Value) (N : Nat) (w : World) (ha : StA N w v l) (hb : StA N w v' l) (hN : N ≤ w.heap.size) :
    Calls Tryz.prog 14 #[v, v'] w (tBool true w) := by
  obtain ⟨p, cap, rfl, hl, hcap, hz, hx⟩ := ha; obtain ⟨p', cap', rfl, _, hcap', _, hx'⟩ := hb; have HX := Lib.hid hx; have HX' := Lib.hid hx'; obtain ⟨K, hK⟩ : ∃ K, l.length = K := ⟨_, rfl⟩; have HK := Lib.hid hK; rw [hK] at hl ⊢; have hk : K ≤ 140737488351232 := (by omega); clear hK hl hx hx' hcap hcap' hz; have HB0 := Lib.hid (Below.refl w.heap.size w)
  go_enter Tryz.func14, Tryz.ntmps14
  go_wp2; go_loopw [5] (fun i wr => ∃ j : Nat, j ≤ K ∧ i = .int .i64 j ∧ Hid (Below w.heap.size w wr)) (fun i _ => K - (intOf i).toNat)
  case atStart => exact ⟨0, Nat.zero_le _, rfl, HB0⟩
  case round =>
    obtain ⟨j, hj, rfl, BW⟩ := hrel; by_cases hlt : j < K
    · obtain ⟨x, hxj⟩ : ∃ x, l[j]? = some x := ⟨_, List.getElem?_eq_getElem (by rw [HK.out]; exact hlt)⟩; have hbw : Below N w wr := BW.out.mono hN; obtain ⟨b, off, rfl, hb, hc⟩ := HX.out (by rw [HK.out]; omega); obtain ⟨b', off', rfl, hb', hc'⟩ := HX'.out (by rw [HK.out]; omega); have c0 := low_cells hbw _ _ hb _ (hc j x hxj); have c1 := low_cells hbw _ _ hb' _ (hc' j x hxj); clear hc hc' hxj hbw; go_wp2; go_quiet (fail)
      go_wp2; go_roundw
      case rel => exact ⟨j + 1, by omega, by go_num, Lib.hid (drewB BW.out)⟩
      case measure => simp [intOf]; omega
    · go_wp2; go_ret; exact ⟨rfl, BW.out⟩
end Go.Proofs.YtpejflgdehioaaaGreatDoor.ItW
