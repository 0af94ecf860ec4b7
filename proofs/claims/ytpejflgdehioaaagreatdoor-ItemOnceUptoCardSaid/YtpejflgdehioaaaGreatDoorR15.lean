/-
  Laws that the card uses; no conditions beside those that each states (ItSize ItValid ItChkE ItConcat ItNamesIn ItChkI ItNames ItSmall).
-/
import Derived.OwnWalk
import Derived.LoopN
import Derived.Lib.AppendZerosOnto
import Derived.Test.YtpejflgdehioaaaGreatDoorR09
import Derived.Test.YtpejflgdehioaaaGreatDoorR10
import Derived.Test.YtpejflgdehioaaaGreatDoorR14
namespace Go.Proofs.YtpejflgdehioaaaGreatDoor.ItW
open Go Go.RowKit Go.Shelf Go.Proofs.YtpejflgdehioaaaGreatDoor.LexW Go.Proofs.YtpejflgdehioaaaGreatDoor.LexM Go.Proofs.YtpejflgdehioaaaGreatDoor.ExM Go.Proofs.YtpejflgdehioaaaGreatDoor.ExW Go.Proofs.YtpejflgdehioaaaGreatDoor.ItM
open Go.Proofs.YtpejflgdehioaaaGreatDoor.ClM (firstE)
attribute [local go_sem] Oper.semAt_some
set_option maxRecDepth 100000 in
set_option maxHeartbeats 4000000 in
theorem itemSize_any (l0 : List It) (v : Value) (w : World) (hx : ItsA w.heap.size w v l0) (hsz : iszs l0 ≤ 10000) :
    Calls Tryz.prog 12 #[v] w fun x w' => x = .returned (.int .i64 (iszs l0)) ∧ Below w.heap.size w w' := by
  obtain ⟨p, cap, V, rfl, _⟩ := hx.form; have HX := Lib.hid hx; clear hx; generalize l0.length = K at *
  refine (callsIn_wide (n := 9)).1 ?_; refine callsIn_of_wp_marks Tryz.func12 rfl trivial ?_ rfl; simp only [Tryz.ntmps12, List.size_toArray, List.length_cons, List.length_nil, Nat.reduceAdd, Nat.reduceSub, Array.replicate_succ, Array.replicate_zero, List.push_toArray, List.append_toArray, List.nil_append, List.cons_append]
  gi_wp2_with (refine ⟨trivial, ?_⟩; gi_at_call 36; refine (constraints_in Fence.wide _ trivial rfl _ _ _ _).mono ?_; rintro e w' ⟨rfl, rfl⟩)
  have bS := (Boxed.new w 3 (.int .i64 0)).alloc (.cells #[.slice p K cap] 22); have bL := Boxed.new (w.alloc (.cells #[.int .i64 0] 3)) 22 (.slice p K cap); have hB0 : Below w.heap.size w ((w.alloc (.cells #[.int .i64 0] 3)).alloc (.cells #[.slice p K cap] 22)) := ((Below.refl _ w).alloc (Nat.le_refl _) _).alloc (by simp) _; have hz : ((w.alloc (.cells #[.int .i64 0] 3)).alloc (.cells #[.slice p K cap] 22)).heap.size = w.heap.size + 2 := (by simp); simp only [World.size_alloc] at bL; obtain ⟨W0, hW0⟩ : ∃ W0, (w.alloc (.cells #[.int .i64 0] 3)).alloc (.cells #[.slice p K cap] 22) = W0 := ⟨_, rfl⟩; rw [hW0] at bS bL hB0 hz ⊢; clear hW0
  refine range_tells rfl (by decide) (gf := 65) (lb := #[.pointer (some ⟨w.heap.size + 1, 0, none⟩)]) rfl trivial (enters_of Tryz.func65 (by kernel_rfl) rfl)
    (constraints_tells Fence.wide rfl _ trivial trivial rfl w.heap.size (w.heap.size + 1) (w.heap.size + 1) (by omega) l0 hsz (fun _ => True) (fun _ _ => trivial) _ W0 (by omega) bL (HX.out.under hB0)) keepC_t (keepC_b (by omega)) (fun _ => rfl)
    (fun bef W => Boxed W w.heap.size 3 (.int .i64 bef.length) ∧ Below w.heap.size w W)
    (fun _ _ _ => False)
    (OwnFrom.and (Own.from (boxed_own _ _ _) _) (ownFrom_below (Nat.le_refl _) (by omega)))
    (fun _ _ _ _ _ hs _ _ => hs)
    ⟨bS, hB0⟩ ?round ?done ?stop
  case round =>
    rintro l bef x W hl ⟨bS1, hB1⟩ _ hlt; rw [zip2]
    gi_wp2
    refine ⟨KeepsFrom.refl _ _, KeepC.refl _ _ _, ⟨bS1, hB1⟩, ?_⟩; rintro Wb hnear ⟨bS2, hB2⟩; have cS := bS2.cell; have fS := bS2.frozen; have hbl : bef.length ≤ 10000 := by omega
    gi_wp2
    exact ⟨(KeepsOthers.setCell _ _ _).from _, (KeepC.refl _ _ _).set (Nat.le_refl _) (by omega) _, by rw [List.length_append]; exact bS2.set _, hB2.setCell (p := ⟨w.heap.size, 0, none⟩) (by simp) _⟩
  case done =>
    rintro D zs W hD hzs ⟨bS1, hB1⟩ hK; have cS := bS1.cell; have hl : zs.length = iszs l0 := (by rw [← wks_len l0 0 [], ← hzs, List.length_map]); rw [hl] at cS; clear bS1 hl hzs
    gi_wp2
    refine ⟨by simp, .inl ⟨_, _, rfl, run_takeDeferred hK, ?_⟩⟩; exact ⟨_, results_tmp rfl _ _ _, rfl, hB1.trans (belowK_b (w := w) (Nat.le_refl _) W D _ _ (by omega) hK rfl rfl)⟩
  case stop =>
    rintro D c bef W _ _ h _; exact h.elim
end Go.Proofs.YtpejflgdehioaaaGreatDoor.ItW
namespace Go.Proofs.YtpejflgdehioaaaGreatDoor.ItW
open Go Go.RowKit Go.Shelf Go.Proofs.YtpejflgdehioaaaGreatDoor.LexW Go.Proofs.YtpejflgdehioaaaGreatDoor.LexM Go.Proofs.YtpejflgdehioaaaGreatDoor.ExM Go.Proofs.YtpejflgdehioaaaGreatDoor.ExW Go.Proofs.YtpejflgdehioaaaGreatDoor.ItM
open Go.Proofs.YtpejflgdehioaaaGreatDoor.ClM (firstE firstE_zero)
attribute [local go_sem] Oper.semAt_some
theorem below_in {n₀ : Nat} {A B C : World} (h : Below n₀ A B) (k : Below n₀ A C) : ∀ b o, b < n₀ → ∀ v, B.cell? ⟨b, o, none⟩ = some v → C.cell? ⟨b, o, none⟩ = some v := fun b o hlt _ hv =>
  (k.cell (p := ⟨b, o, none⟩) hlt).trans ((h.cell (p := ⟨b, o, none⟩) hlt).symm.trans hv)
theorem first_of {L : List Pl} {q M : List Pl} {g : Pl → Int} (h : q <+: L) (hL : L = M) (hne : firstE (q.map g) ≠ 0) : firstE (M.map g) = firstE (q.map g) := by
  subst hL; obtain ⟨r, rfl⟩ := h; rw [List.map_append, firstE_append, if_neg hne]
set_option maxRecDepth 100000 in
set_option maxHeartbeats 8000000 in
theorem itemValid_any (l0 : List It) (v : Value) (w : World) (hx : ItsA w.heap.size w v l0) (hsz : iszs l0 ≤ 10000) (hrs : RsL l0) (ht : Tab w) :
    Calls Tryz.prog 17 #[v] w (tInt (validI l0) w) := by
  obtain ⟨p, cap, V, rfl, hri⟩ := hx.form; have hK0 : l0.length ≤ 140737488351232 := (by have := hri.hl; omega); have HX := Lib.hid hx; have HT := Lib.hid ht; have HRS : Hid (∀ q ∈ wks 0 [] l0, Nd1 q.x) := Lib.hid (rs_wks l0 0 [] hrs); have SC : Hid (∀ n W, Below w.heap.size w W → CallsIn Fence.wide n Tryz.prog 12 #[.slice p l0.length cap] W fun x w' => x = .returned (.int .i64 (iszs l0)) ∧ Below W.heap.size W w') := (Lib.hid fun n W hW => callsIn_wide.2 (itemSize_any l0 _ W ((HX.out.under hW).wide hW.size) hsz)); clear hx ht hrs hri; generalize l0.length = K at *
  refine (callsIn_wide (n := 9)).1 ?_; refine callsIn_of_wp_marks Tryz.func17 rfl trivial ?_ rfl; simp only [Tryz.ntmps17, List.size_toArray, List.length_cons, List.length_nil, Nat.reduceAdd, Nat.reduceSub, Array.replicate_succ, Array.replicate_zero, List.push_toArray, List.append_toArray, List.nil_append, List.cons_append]; have hbR : Below w.heap.size w (w.alloc (.cells #[.int .i64 0] 29)) := (Below.refl _ _).alloc (Nat.le_refl _) _; have HBR := Lib.hid hbR; have HR0 := Lib.hid (Boxed.new w 29 (.int .i64 0)); clear hbR; obtain ⟨Z, hZ⟩ : ∃ Z, iszs l0 = Z := ⟨_, rfl⟩; have HV : Hid (validI l0 = if 64 < Z then 2 else firstV l0) := Lib.hid (by unfold validI; rw [hZ]); have HZ := Lib.hid hZ; rw [hZ] at SC hsz; clear hZ; by_cases h64 : 64 < Z
  · have q : decide ((64 : Int) < Z) = true := decide_eq_true (by omega); have E : Hid (2 = validI l0) := Lib.hid (by rw [HV.out, if_pos h64])
    gi_wp2_with (refine ⟨trivial, ?_⟩; gi_at_call 12; refine (SC.out _ _ HBR.out).mono ?_; rintro e w1 ⟨rfl, hb⟩; have bR := bxStay HR0.out hb; have cR := bR.cell; have fR := bR.frozen; have HB1 := Lib.hid (HBR.out.then_ hb); clear hb)
    refine ⟨.int .i64 2, ?_, ExW.tInt_mk E.out (HB1.out.setCell (p := ⟨w.heap.size, 0, none⟩) (by simp) _)⟩; have hc5 := World.cell?_setCell_same' w1 ⟨w.heap.size, 0, none⟩ (.int .i64 2) (by rw [cR]; rfl); simp [results, Tryz.results17, go_sem, hc5]
  · have q : decide ((64 : Int) < Z) = false := decide_eq_false (by omega); have HV2 : Hid (validI l0 = firstV l0) := Lib.hid (by rw [HV.out, if_neg h64])
    gi_wp2_with (first
      | (refine ⟨trivial, ?_⟩; gi_at_call 12; refine (SC.out _ _ HBR.out).mono ?_; rintro e w1 ⟨rfl, hb⟩; have bR := bxStay HR0.out hb; have HB1 := Lib.hid (HBR.out.then_ hb); have HR1 := Lib.hid bR; clear hb bR)
      | (refine ⟨trivial, ?_⟩; gi_at_call 36; refine (constraints_in Fence.wide _ trivial rfl _ _ _ _).mono ?_; rintro e w' ⟨rfl, rfl⟩))
    have hs1 := HB1.out.size; have hR1l := HR1.out.lt; have bR := HR1.out.alloc (.cells #[.slice p K cap] 22); have bL := Boxed.new w1 22 (.slice p K cap); have hB0 : Below w.heap.size w (w1.alloc (.cells #[.slice p K cap] 22)) := HB1.out.alloc (by omega) _; have hz : (w1.alloc (.cells #[.slice p K cap] 22)).heap.size = w1.heap.size + 1 := (by simp); obtain ⟨W0, hW0⟩ : ∃ W0, w1.alloc (.cells #[.slice p K cap] 22) = W0 := ⟨_, rfl⟩; rw [hW0] at bR bL hB0 hz ⊢; clear hW0
    refine range_tells rfl (by decide) (gf := 65) (lb := #[.pointer (some ⟨w1.heap.size, 0, none⟩)]) rfl trivial (enters_of Tryz.func65 (by kernel_rfl) rfl)
      (constraints_tells Fence.wide rfl _ trivial trivial rfl w.heap.size (w.heap.size + 1) w1.heap.size (by omega) l0 (by rw [HZ.out]; exact hsz) (fun q => Nd1 q.x) HRS.out _ W0 (by omega) bL (HX.out.under hB0)) keepC_t (keepC_b (by omega)) (fun _ => rfl)
      (fun bef W => (Boxed W w.heap.size 29 (.int .i64 0) ∧ firstE ((bef.map Pn.pl).map fltP) = 0) ∧ Below w.heap.size w W)
      (fun c bef W => (Boxed W w.heap.size 29 (.int .i64 (firstE ((bef.map Pn.pl).map fltP))) ∧ (c = .ret ∧ firstE ((bef.map Pn.pl).map fltP) ≠ 0)) ∧ Below w.heap.size w W)
      (OwnFrom.and (OwnFrom.and (Own.from (boxed_own _ _ _) _) (ownFrom_pure _ _)) (ownFrom_below (Nat.le_refl _) (by omega)))
      (fun c => OwnFrom.and (OwnFrom.and (Own.from (boxed_own _ _ _) _) (ownFrom_pure _ _)) (ownFrom_below (Nat.le_refl _) (by omega)))
      ⟨⟨bR, rfl⟩, hB0⟩ ?round ?done ?stop
    case round =>
      rintro l bef x W hl ⟨⟨bR1, hf1⟩, hB1⟩ htell hlt; have hnd := htell.2; have HMP : Hid (firstE (((bef ++ [x]).map Pn.pl).map fltP) = fltP x.pl) := Lib.hid (by rw [List.map_append, List.map_append, List.map_cons, List.map_nil, List.map_cons, List.map_nil, firstE_snoc, if_pos hf1]); have hWs := hB1.size; have hl1 := bR1.lt; have HBR1 := Lib.hid bR1; have HF1 := Lib.hid hf1; have HBW := Lib.hid hB1; clear htell bR1 hf1 hB1; have hpl : x.pl = ⟨x.d, x.B, x.x⟩ := rfl; rw [hpl] at HMP hnd; obtain ⟨d, B, it, a4, a7, a8, a9, a10, a11, mb, hd, hv⟩ := x; simp only at HMP hnd hpl ⊢; obtain ⟨p4, k4, p7, k7, p8, k8, p9, k9, p10, k10, p11, k11, rfl, rfl, rfl, rfl, rfl, rfl⟩ := hv.slices; rw [zip2]; have b1 : Below W.heap.size W ((W.alloc (.cells #[.int .i64 d, .map (some mb)] 70)).alloc (.cells (ics it.kd it.e.op it.e.n it.e.nm (.slice p4 it.e.args.length k4) it.nm it.ix (.slice p7 it.ws.length k7) (.slice p8 it.it.length k8) (.slice p9 it.el.length k9) (.slice p10 it.bf.length k10) (.slice p11 it.af.length k11)).toArray 55)) := ((Below.refl _ _).alloc (Nat.le_refl _) _).alloc (by simp) _; have FP := (Blk.new W [.int .i64 d, .map (some mb)] 70).alloc (.cells (ics it.kd it.e.op it.e.n it.e.nm (.slice p4 it.e.args.length k4) it.nm it.ix (.slice p7 it.ws.length k7) (.slice p8 it.it.length k8) (.slice p9 it.el.length k9) (.slice p10 it.bf.length k10) (.slice p11 it.af.length k11)).toArray 55); have FI := Blk.new (W.alloc (.cells #[.int .i64 d, .map (some mb)] 70)) (ics it.kd it.e.op it.e.n it.e.nm (.slice p4 it.e.args.length k4) it.nm it.ix (.slice p7 it.ws.length k7) (.slice p8 it.it.length k8) (.slice p9 it.el.length k9) (.slice p10 it.bf.length k10) (.slice p11 it.af.length k11)) 55; rw [World.size_alloc] at FI; have B1 := Lib.hid b1; have FP1 := Lib.hid FP; have FI1 := Lib.hid FI; clear b1 FP FI
      gi_wp2
      refine ⟨keepsFrom_below B1.out, KeepC.of_below B1.out, ⟨⟨bxStay HBR1.out B1.out, HF1.out⟩, HBW.out.trans (B1.out.mono hWs)⟩, ?_⟩; rintro Wb hnear ⟨⟨bR2, _⟩, hB2⟩; have d0 := hnear.cell (FP1.out.c 0 _ rfl); have e0 := hnear.cell (FI1.out.c 0 _ rfl); have e1 := hnear.cell (FI1.out.c 1 _ rfl); have e2 := hnear.cell (FI1.out.c 2 _ rfl); have e3 := hnear.cell (FI1.out.c 3 _ rfl); have e4 := hnear.cell (FI1.out.c 4 _ rfl); have e5 := hnear.cell (FI1.out.c 5 _ rfl); have e6 := hnear.cell (FI1.out.c 6 _ rfl); have e7 := hnear.cell (FI1.out.c 7 _ rfl); have e8 := hnear.cell (FI1.out.c 8 _ rfl); have e9 := hnear.cell (FI1.out.c 9 _ rfl); have e10 := hnear.cell (FI1.out.c 10 _ rfl); have e11 := hnear.cell (FI1.out.c 11 _ rfl); have hsb := hB2.size; have hlR := bR2.lt; have FC : Hid (∀ n, CallsIn (Fence.wide.inRound l) n Tryz.prog 40 #[iv it.kd it.e.op it.e.n it.e.nm (.slice p4 it.e.args.length k4) it.nm it.ix (.slice p7 it.ws.length k7) (.slice p8 it.it.length k8) (.slice p9 it.el.length k9) (.slice p10 it.bf.length k10) (.slice p11 it.af.length k11), .int .i64 d] Wb (tInt (fltI d it) Wb)) :=
        Lib.hid fun n => CallsIn.inRound l (callsIn_wide.2 (fault_any d hd it _ _ _ _ _ _ w.heap.size Wb (hv.kept (below_in hB0 hB2) (Nat.le_refl _)) hsb hnd.1 (HT.out.later hB2)))
      have BR2 := Lib.hid bR2; have HB2 := Lib.hid hB2; clear bR2 hB2 hnear; by_cases hf : fltI d it = 0
      · rw [hf] at FC; have HE : Hid (firstE (((bef ++ [(⟨d, B, it, .slice p4 it.e.args.length k4, .slice p7 it.ws.length k7, .slice p8 it.it.length k8, .slice p9 it.el.length k9, .slice p10 it.bf.length k10, .slice p11 it.af.length k11, mb, hd, hv⟩ : Pn w.heap.size W0)]).map Pn.pl).map fltP) = 0) := Lib.hid (by rw [HMP.out]; exact hf); clear hf
        gi_wp2_with (refine ⟨trivial, ?_⟩; gi_at_call 40; refine (FC.out _).mono ?_; rintro e w2 ⟨rfl, hb⟩; have bR3 := bxStay BR2.out hb; have HBc := Lib.hid hb; have BR3 := Lib.hid bR3; clear hb bR3)
        exact ⟨keepsFrom_below HBc.out, KeepC.of_below HBc.out, ⟨⟨BR3.out, HE.out⟩, HB2.out.trans (HBc.out.mono hsb)⟩⟩
      · have HE : Hid (firstE (((bef ++ [(⟨d, B, it, .slice p4 it.e.args.length k4, .slice p7 it.ws.length k7, .slice p8 it.it.length k8, .slice p9 it.el.length k9, .slice p10 it.bf.length k10, .slice p11 it.af.length k11, mb, hd, hv⟩ : Pn w.heap.size W0)]).map Pn.pl).map fltP) = fltI d it) := Lib.hid HMP.out; obtain ⟨E, hE0⟩ : ∃ E, fltI d it = E := ⟨_, rfl⟩; rw [hE0] at FC HE hf; clear hE0; have hE : (E != 0) = true := (by simpa using hf); have HNE := Lib.hid hf; clear hf
        gi_wp2_with (refine ⟨trivial, ?_⟩; gi_at_call 40; refine (FC.out _).mono ?_; rintro e w2 ⟨rfl, hb⟩; have bR3 := bxStay BR2.out hb; have cR := bR3.cell; have fR := bR3.frozen; have HBc := Lib.hid hb; have BR3 := Lib.hid bR3; clear hb bR3)
        refine ⟨(keepsFrom_below HBc.out).trans ((KeepsOthers.setCell _ _ _).from _), (KeepC.of_below HBc.out).set (Nat.le_refl _) (by omega) _, ⟨?_, rfl, by rw [HE.out]; exact HNE.out⟩, (HB2.out.trans (HBc.out.mono hsb)).setCell (p := ⟨w.heap.size, 0, none⟩) (by simp) _⟩; rw [HE.out]; exact BR3.out.set _
    case done =>
      rintro D zs W hD hzs ⟨⟨bR1, hf1⟩, hB1⟩ hK; have HV3 : Hid (0 = validI l0) := Lib.hid (by rw [HV2.out]; unfold firstV; rw [← hzs, hf1]); have HBW := Lib.hid hB1; have cR := bR1.cell; have fR := bR1.frozen; have HKD := Lib.hid hK; clear bR1 hf1 hzs hB1
      gi_wp2
      have hK' := (KeepsOthers.setCell W ⟨w.heap.size, 0, none⟩ (.int .i64 0)).same D _ HKD.out rfl; refine ⟨by simp, .inl ⟨_, _, rfl, run_takeDeferred hK', ?_⟩⟩; have hc5 := cell_kept (World.cell?_setCell_same' W ⟨w.heap.size, 0, none⟩ (.int .i64 0) (by rw [cR]; rfl)) (grownBy_putObj' _ D (.deferred none)) (fun r e => by cases e; exact ⟨_, hK', rfl⟩); refine ⟨.int .i64 0, ?_, by rw [HV3.out], (HBW.out.setCell (p := ⟨w.heap.size, 0, none⟩) (by simp) _).trans (belowK_b (w := w) (Nat.le_refl _) _ D _ _ (by omega) hK' rfl rfl)⟩; simp [results, Tryz.results17, go_sem, hc5]
    case stop =>
      rintro D c bef W hD hpre ⟨⟨bR1, rfl, hne⟩, hB1⟩ hK; have HV3 : Hid (firstE ((bef.map Pn.pl).map fltP) = validI l0) := Lib.hid (by rw [HV2.out]; unfold firstV; rw [first_of hpre rfl hne]); have HBW := Lib.hid hB1; have cR := bR1.cell; clear bR1 hne hpre hB1
      gi_wp2
      refine ⟨by simp, .inl ⟨_, _, rfl, run_takeDeferred hK, ?_⟩⟩; have hc5 := cell_kept cR (grownBy_putObj' _ D (.deferred none)) (fun r e => by cases e; exact ⟨_, hK, rfl⟩); refine ⟨.int .i64 (firstE ((bef.map Pn.pl).map fltP)), ?_, by rw [HV3.out], HBW.out.trans (belowK_b (w := w) (Nat.le_refl _) W D _ _ (by omega) hK rfl rfl)⟩; simp [results, Tryz.results17, go_sem, hc5]
end Go.Proofs.YtpejflgdehioaaaGreatDoor.ItW
namespace Go.Proofs.YtpejflgdehioaaaGreatDoor.ItW
open Go Go.RowKit Go.Shelf Go.Proofs.YtpejflgdehioaaaGreatDoor.LexW Go.Proofs.YtpejflgdehioaaaGreatDoor.LexM Go.Proofs.YtpejflgdehioaaaGreatDoor.ExM Go.Proofs.YtpejflgdehioaaaGreatDoor.ExW Go.Proofs.YtpejflgdehioaaaGreatDoor.ItM
open Go.Proofs.YtpejflgdehioaaaGreatDoor.ClM (Fld firstE firstE_zero)
attribute [local go_sem] Oper.semAt_some
def BMap (W : World) (mv : Value) (B : List ByteArray) : Prop := (mv = .map none ∧ B = []) ∨ ∃ mb n, mv = .map (some mb) ∧ IntMap W mb n (cntB B)
theorem BMap.below {W W' : World} {mv : Value} {B : List ByteArray} (h : BMap W mv B) (hb : Below W.heap.size W W') : BMap W' mv B := by
  rcases h with h | ⟨mb, n, e, h⟩
  · exact .inl h
  · exact .inr ⟨mb, n, e, h.below hb⟩
theorem run_look_none (W : World) (t : ByteArray) : (Instr.lookup 68 (.map none) (.string t) false).run Tryz.prog W = .ok (.int .i64 0) W := by kernel_rfl
theorem BMap.look {W : World} {mv : Value} {B : List ByteArray} (h : BMap W mv B) (t : ByteArray) (ht : t.size ≤ 140737488351232) : (Instr.lookup 68 mv (.string t) false).run Tryz.prog W = .ok (.int .i64 (cntB B t)) W := by
  rcases h with ⟨rfl, rfl⟩ | ⟨mb, n, rfl, h⟩
  · exact run_look_none W t
  · exact h.look Tryz.underlying68 t ht
theorem isArI_any (o : Int) (w : World) : Calls Tryz.prog 97 #[.int .i64 o] w fun e w' => e = .returned (.bool (isAr o)) ∧ w = w' := by
  by_cases h : o = 3
  · subst h
    go_enter Tryz.func97, Tryz.ntmps97
    go_wp2; go_ret; exact ⟨rfl, rfl⟩
  · have h0 : (o == 3) = false := (by rw [beq_eq_false_iff_ne]; exact h); have EE : Hid (isAr o = (o == 24)) := Lib.hid (by unfold isAr; rw [Bool.eq_iff_iff]; simp [h]); clear h
    go_enter Tryz.func97, Tryz.ntmps97
    go_wp2; go_ret; exact ⟨retb (by rw [EE.out]), rfl⟩
theorem firstE_of {L : List In} {q : List In} {g : In → Int} (h : q <+: L) (hne : firstE (q.map g) ≠ 0) : firstE (L.map g) = firstE (q.map g) := by
  obtain ⟨r, rfl⟩ := h; rw [List.map_append, firstE_append, if_neg hne]
theorem zip2s (a : Nat) (u : Value) (t : Array Value) : Array.foldl (fun t (x : Tmp × Value) => t.setIfInBounds x.1 x.2) t ((#[a] : Array Tmp).zip #[u]) = t.setIfInBounds a u := by
  simp [Array.zip, Array.zipWith, Array.zipWithMAux]
theorem flt_var {x : In} (h : fltS x = 0) (hv : isVr x.op = true) : varB x.nm.data.toList = true := by
  unfold fltS at h; split at h
  · cases h
  · split at h
    · cases h
    · rename_i hb; simp [badN, hv] at hb; exact hb.1
set_option maxRecDepth 100000 in
set_option maxHeartbeats 8000000 in
theorem checkExpr_any (fb : Nat) (fs : List Fld) (mv : Value) (B : List ByteArray) (e : Ex) (v : Value) (w : World) (hf : FsA w fb fs) (hm : BMap w mv B) (hmv : ∃ m, mv = .map m) (hx : ExAt w.heap.size w v e) (hsz : sz e ≤ 10000) (hok : ∀ y ∈ pre 1 e, fltS y = 0) :
    Calls Tryz.prog 56 #[.map (some fb), v, mv] w (tInt (exE fs B e) w) := by
  obtain ⟨p, cap, pl, cl, rfl, hs, ha⟩ := hx.form; have HX := Lib.hid hx; have HF := Lib.hid hf; have HM := Lib.hid hm; have HOK := Lib.hid hok; obtain ⟨mm, rfl⟩ := hmv; clear hx ha hf hm hok; have EV : Hid (exE fs B e = firstE ((pre 1 e).map (nodE fs B))) := Lib.hid rfl; generalize e.op = o at *
  generalize e.n = num at *
  generalize e.nm = s at *
  generalize e.args.length = K at *
  refine (callsIn_wide (n := 9)).1 ?_; refine callsIn_of_wp_marks Tryz.func56 rfl trivial ?_ rfl; simp only [Tryz.ntmps56, List.size_toArray, List.length_cons, List.length_nil, Nat.reduceAdd, Nat.reduceSub, Array.replicate_succ, Array.replicate_zero, List.push_toArray, List.append_toArray, List.nil_append, List.cons_append]
  gi_wp2_with (refine ⟨trivial, ?_⟩; gi_at_call 96; refine (nodesN_in Fence.wide _ trivial rfl _ _ _ _ _).mono ?_; rintro e w' ⟨rfl, rfl⟩)
  obtain ⟨O0, hO0⟩ : ∃ O : Obj, O = .cells #[.map (some fb)] 79 := ⟨_, rfl⟩; obtain ⟨O1, hO1⟩ : ∃ O : Obj, O = .cells #[.int .i64 o, .int .i64 num, .string s, .slice p K cap] 43 := ⟨_, rfl⟩; obtain ⟨O2, hO2⟩ : ∃ O : Obj, O = .cells #[.map mm] 68 := ⟨_, rfl⟩; have bF := ((((Boxed.new w 79 (.map (some fb))).alloc O1).alloc O2).alloc (.cells #[.int .i64 0] 29) |>.alloc O1); have bM := ((Boxed.new ((w.alloc O0).alloc O1) 68 (.map mm)).alloc (.cells #[.int .i64 0] 29)).alloc O1; have bR := (Boxed.new (((w.alloc O0).alloc O1).alloc O2) 29 (.int .i64 0)).alloc O1; have bA := Four.new ((((w.alloc O0).alloc O1).alloc O2).alloc (.cells #[.int .i64 0] 29)) (.int .i64 o) (.int .i64 num) (.string s) (.slice p K cap) 43; have hB0 : Below w.heap.size w (((((w.alloc O0).alloc O1).alloc O2).alloc (.cells #[.int .i64 0] 29)).alloc O1) := (((((Below.refl _ w).alloc (Nat.le_refl _) _).alloc (by simp) _).alloc (by simp; omega) _).alloc (by simp; omega) _).alloc (by simp; omega) _; have hz : (((((w.alloc O0).alloc O1).alloc O2).alloc (.cells #[.int .i64 0] 29)).alloc O1).heap.size = w.heap.size + 5 := (by simp); subst hO0; subst hO1; subst hO2; simp only [World.size_alloc, Nat.add_assoc, Nat.reduceAdd] at bF bM bR bA; simp only [Nat.add_assoc, Nat.reduceAdd]; obtain ⟨W0, hW0⟩ : ∃ W0, (((((w.alloc (.cells #[.map (some fb)] 79)).alloc (.cells #[.int .i64 o, .int .i64 num, .string s, .slice p K cap] 43)).alloc (.cells #[.map mm] 68)).alloc (.cells #[.int .i64 0] 29)).alloc (.cells #[.int .i64 o, .int .i64 num, .string s, .slice p K cap] 43)) = W0 := ⟨_, rfl⟩; rw [hW0] at bF bM bR bA hB0 hz ⊢; clear hW0
  refine range_tells rfl (by decide) (gf := 147) (lb := #[.pointer (some ⟨w.heap.size + 4, 0, none⟩)]) rfl trivial (enters_of Tryz.func147 (by kernel_rfl) rfl)
    (nodesN_tells Fence.wide rfl _ trivial trivial rfl w.heap.size (w.heap.size + 4) (w.heap.size + 4) (by omega) e hsz (fun y => fltS y = 0) HOK.out o num s (.slice p K cap) W0 (by omega) bA (HX.out.under hB0)) keepC_t (keepC_b (by omega)) (fun _ => rfl)
    (fun bef W => (((Boxed W w.heap.size 79 (.map (some fb)) ∧ Boxed W (w.heap.size + 2) 68 (.map mm)) ∧ Boxed W (w.heap.size + 3) 29 (.int .i64 0)) ∧ firstE ((bef.map Nd.info).map (nodE fs B)) = 0) ∧ Below w.heap.size w W)
    (fun c bef W => (Boxed W (w.heap.size + 3) 29 (.int .i64 (firstE ((bef.map Nd.info).map (nodE fs B)))) ∧ (c = .ret ∧ firstE ((bef.map Nd.info).map (nodE fs B)) ≠ 0)) ∧ Below w.heap.size w W)
    (OwnFrom.and (OwnFrom.and (OwnFrom.and (OwnFrom.and (Own.from (boxed_own _ _ _) _) (Own.from (boxed_own _ _ _) _)) (Own.from (boxed_own _ _ _) _)) (ownFrom_pure _ _)) (ownFrom_below (Nat.le_refl _) (by omega)))
    (fun c => OwnFrom.and (OwnFrom.and (Own.from (boxed_own _ _ _) _) (ownFrom_pure _ _)) (ownFrom_below (Nat.le_refl _) (by omega)))
    ⟨⟨⟨⟨bF, bM⟩, bR⟩, rfl⟩, hB0⟩ ?round ?done ?stop
  case round =>
    rintro l bef x W hl ⟨⟨⟨⟨bF1, bM1⟩, bR1⟩, hf1⟩, hB1⟩ hfx hlt; have HMP : Hid (firstE (((bef ++ [x]).map Nd.info).map (nodE fs B)) = nodE fs B x.info) := Lib.hid (by rw [List.map_append, List.map_append, List.map_cons, List.map_nil, List.map_cons, List.map_nil, firstE_snoc, if_pos hf1]); have hWs := hB1.size; have hl1 := bR1.lt; have HFX := Lib.hid hfx; have HBF1 := Lib.hid bF1; have HBM1 := Lib.hid bM1; have HBR1 := Lib.hid bR1; have HF1 := Lib.hid hf1; have HBW := Lib.hid hB1; clear hfx bF1 bM1 bR1 hf1 hB1; rw [zip2s]; have B1 := Lib.hid (ba W (.cells #[.int .i64 x.op, .int .i64 x.n, .string x.nm, .slice x.p x.k x.cap] 43)); have FI1 := Lib.hid (Blk.new W [.int .i64 x.op, .int .i64 x.n, .string x.nm, .slice x.p x.k x.cap] 43)
    gi_wp2
    refine ⟨keepsFrom_below B1.out, KeepC.of_below B1.out, ⟨⟨⟨⟨bxStay HBF1.out B1.out, bxStay HBM1.out B1.out⟩, bxStay HBR1.out B1.out⟩, HF1.out⟩, HBW.out.trans (B1.out.mono hWs)⟩, ?_⟩; rintro Wb hnear ⟨⟨⟨⟨bF2, bM2⟩, bR2⟩, _⟩, hB2⟩; have e0 := hnear.cell (FI1.out.c 0 _ rfl); have e2 := hnear.cell (FI1.out.c 2 _ rfl); have cF := bF2.cell; have cM := bM2.cell; have hsb := hB2.size; have hlR := bR2.lt; have AC : Hid (∀ n W, CallsIn (Fence.wide.inRound l) n Tryz.prog 97 #[.int .i64 x.op] W fun e w' => e = .returned (.bool (isAr x.op)) ∧ W = w') := (Lib.hid fun n W => CallsIn.inRound l (callsIn_wide.2 (isArI_any x.op W))); have CA : Hid (∀ n, CallsIn (Fence.wide.inRound l) n Tryz.prog 98 #[.map (some fb), .string x.nm] Wb fun e w' => e = .returned (.int .i64 (arrE fs x.nm)) ∧ Wb = w') := (Lib.hid fun n => CallsIn.inRound l (callsIn_wide.2 (arrE_any fb fs x.nm Wb (HF.out.later hB2) x.hs))); have CV : Hid (isVr x.op = true → ∀ n, CallsIn (Fence.wide.inRound l) n Tryz.prog 99 #[.map (some fb), .string x.nm] Wb (tInt (varE fs x.nm) Wb)) := (Lib.hid fun hv n => CallsIn.inRound l (callsIn_wide.2 (varE_any fb fs x.nm Wb (HF.out.later hB2) x.hs (flt_var HFX.out hv)))); have hlk := (HM.out.below hB2).look x.nm x.hs; have hcz := cntB_pos B x.nm; have NE : Hid (nodE fs B x.info = if isAr x.op = true then arrE fs x.nm else if (isVr x.op && !memB B x.nm) = true then varE fs x.nm else 0) := Lib.hid rfl; have HBF2 := Lib.hid bF2; have BR2 := Lib.hid bR2; have BM2 := Lib.hid bM2; have HB2 := Lib.hid hB2; clear bR2 hB2 hnear bF2 bM2; obtain ⟨A, hA⟩ : ∃ A, isAr x.op = A := ⟨_, rfl⟩; rw [hA] at AC NE; clear hA; have cR0 := BR2.out.cell; have fR0 := BR2.out.frozen; have HCV := CV; clear CV; cases A
    · have q2 : (x.op == 2) = isVr x.op := (by unfold isVr; rw [Bool.eq_iff_iff]; simp); obtain ⟨V, hV⟩ : ∃ V, isVr x.op = V := ⟨_, rfl⟩; rw [hV] at q2 NE; have CV2 := (fun h => HCV.out (hV.trans h)); clear HCV hV; cases V
      · have HE : Hid (nodE fs B x.info = 0) := Lib.hid (by rw [NE.out]; rfl); clear CV2
        gi_wp2_with (first | (refine ⟨trivial, ?_⟩; gi_at_call 97; refine (AC.out _ _).mono ?_; rintro e w2 ⟨rfl, rfl⟩))
        exact ⟨KeepsFrom.refl _ _, KeepC.refl _ _ _, ⟨⟨⟨⟨HBF2.out, BM2.out⟩, BR2.out⟩, by rw [HMP.out]; exact HE.out⟩, HB2.out⟩⟩
      · obtain ⟨M, hM⟩ : ∃ M, memB B x.nm = M := ⟨_, rfl⟩; rw [hM] at NE hcz; have CV3 := Lib.hid (CV2 rfl); clear CV2; cases M
        · have hc0 : cntB B x.nm = 0 := hcz.2.2 rfl; rw [hc0] at hlk; have NE2 : Hid (nodE fs B x.info = varE fs x.nm) := Lib.hid (by rw [NE.out]; rfl); obtain ⟨E, hE0⟩ : ∃ E, varE fs x.nm = E := ⟨_, rfl⟩; rw [hE0] at CV3 NE2; clear hE0 hcz hM hc0 NE; by_cases hE1 : E = 0
          · subst hE1; have HE := NE2
            gi_wp2_with (first | (refine ⟨trivial, ?_⟩; gi_at_call 97; refine (AC.out _ _).mono ?_; rintro e w2 ⟨rfl, rfl⟩) | (refine ⟨trivial, ?_⟩; gi_at_call 99; refine (CV3.out _).mono ?_; rintro e w2 ⟨rfl, hb⟩; have bR3 := bxStay BR2.out hb; have bF3 := bxStay HBF2.out hb; have bM3 := bxStay BM2.out hb; have cR := bR3.cell; have fR := bR3.frozen; have HBc := Lib.hid hb; have BR3 := Lib.hid bR3; have BF3 := Lib.hid bF3; have BM3 := Lib.hid bM3; clear hb bR3 bF3 bM3))
            exact ⟨keepsFrom_below HBc.out, KeepC.of_below HBc.out, ⟨⟨⟨⟨BF3.out, BM3.out⟩, BR3.out⟩, by rw [HMP.out]; exact HE.out⟩, HB2.out.trans (HBc.out.mono hsb)⟩⟩
          · have hE2 : (E != 0) = true := (by simpa using hE1); have HNE := Lib.hid hE1; have HE := NE2; clear hE1
            gi_wp2_with (first | (refine ⟨trivial, ?_⟩; gi_at_call 97; refine (AC.out _ _).mono ?_; rintro e w2 ⟨rfl, rfl⟩) | (refine ⟨trivial, ?_⟩; gi_at_call 99; refine (CV3.out _).mono ?_; rintro e w2 ⟨rfl, hb⟩; have bR3 := bxStay BR2.out hb; have bF3 := bxStay HBF2.out hb; have bM3 := bxStay BM2.out hb; have cR := bR3.cell; have fR := bR3.frozen; have HBc := Lib.hid hb; have BR3 := Lib.hid bR3; have BF3 := Lib.hid bF3; have BM3 := Lib.hid bM3; clear hb bR3 bF3 bM3))
            refine ⟨(keepsFrom_below HBc.out).trans ((KeepsOthers.setCell _ _ _).from _), (KeepC.of_below HBc.out).set (by omega) (by omega) _, ⟨?_, rfl, by rw [HMP.out, HE.out]; exact HNE.out⟩, (HB2.out.trans (HBc.out.mono hsb)).setCell (p := ⟨w.heap.size + 3, 0, none⟩) (by simp) _⟩; rw [HMP.out, HE.out]; exact BR3.out.set _
        · have hc0 : cntB B x.nm ≠ 0 := (fun h => by have := hcz.2.1 h; cases this); have hc1 : (cntB B x.nm == 0) = false := (by rw [beq_eq_false_iff_ne]; exact hc0); have HE : Hid (nodE fs B x.info = 0) := Lib.hid (by rw [NE.out]; rfl); clear hc0 hcz hM
          gi_wp2_with (first | (refine ⟨trivial, ?_⟩; gi_at_call 97; refine (AC.out _ _).mono ?_; rintro e w2 ⟨rfl, rfl⟩))
          exact ⟨KeepsFrom.refl _ _, KeepC.refl _ _ _, ⟨⟨⟨⟨HBF2.out, BM2.out⟩, BR2.out⟩, by rw [HMP.out]; exact HE.out⟩, HB2.out⟩⟩
    · have NE2 : Hid (nodE fs B x.info = arrE fs x.nm) := Lib.hid (by rw [NE.out]; rfl); obtain ⟨E, hE0⟩ : ∃ E, arrE fs x.nm = E := ⟨_, rfl⟩; rw [hE0] at CA NE2; clear hE0 hcz NE HCV; by_cases hE1 : E = 0
      · subst hE1; have HE := NE2
        gi_wp2_with (first | (refine ⟨trivial, ?_⟩; gi_at_call 97; refine (AC.out _ _).mono ?_; rintro e w2 ⟨rfl, rfl⟩) | (refine ⟨trivial, ?_⟩; gi_at_call 98; refine (CA.out _).mono ?_; rintro e w2 ⟨rfl, rfl⟩))
        exact ⟨KeepsFrom.refl _ _, KeepC.refl _ _ _, ⟨⟨⟨⟨HBF2.out, BM2.out⟩, BR2.out⟩, by rw [HMP.out]; exact HE.out⟩, HB2.out⟩⟩
      · have hE2 : (E != 0) = true := (by simpa using hE1); have HNE := Lib.hid hE1; have HE := NE2; clear hE1
        gi_wp2_with (first | (refine ⟨trivial, ?_⟩; gi_at_call 97; refine (AC.out _ _).mono ?_; rintro e w2 ⟨rfl, rfl⟩) | (refine ⟨trivial, ?_⟩; gi_at_call 98; refine (CA.out _).mono ?_; rintro e w2 ⟨rfl, rfl⟩))
        refine ⟨(KeepsOthers.setCell _ _ _).from _, (KeepC.refl _ _ _).set (by omega) (by omega) _, ⟨?_, rfl, by rw [HMP.out, HE.out]; exact HNE.out⟩, HB2.out.setCell (p := ⟨w.heap.size + 3, 0, none⟩) (by simp) _⟩; rw [HMP.out, HE.out]; exact BR2.out.set _
  case done =>
    rintro D zs W hD hzs ⟨⟨⟨⟨_, _⟩, bR1⟩, hf1⟩, hB1⟩ hK; have HV3 : Hid (0 = exE fs B e) := Lib.hid (by rw [EV.out, ← hzs, hf1]); have HBW := Lib.hid hB1; have cR := bR1.cell; have fR := bR1.frozen; have HKD := Lib.hid hK; clear bR1 hf1 hzs hB1
    gi_wp2
    have hK' := (KeepsOthers.setCell W ⟨w.heap.size + 3, 0, none⟩ (.int .i64 0)).same D _ HKD.out rfl; refine ⟨by simp, .inl ⟨_, _, rfl, run_takeDeferred hK', ?_⟩⟩; have hc5 := cell_kept (World.cell?_setCell_same' W ⟨w.heap.size + 3, 0, none⟩ (.int .i64 0) (by rw [cR]; rfl)) (grownBy_putObj' _ D (.deferred none)) (fun r e => by cases e; exact ⟨_, hK', rfl⟩); refine ⟨.int .i64 0, ?_, by rw [HV3.out], (HBW.out.setCell (p := ⟨w.heap.size + 3, 0, none⟩) (by simp) _).trans (belowK_b (w := w) (Nat.le_refl _) _ D _ _ (by omega) hK' rfl rfl)⟩; simp [results, Tryz.results56, go_sem, hc5]
  case stop =>
    rintro D c bef W hD hpre ⟨⟨bR1, rfl, hne⟩, hB1⟩ hK; have HV3 : Hid (firstE ((bef.map Nd.info).map (nodE fs B)) = exE fs B e) := Lib.hid (by rw [EV.out, firstE_of hpre hne]); have HBW := Lib.hid hB1; have cR := bR1.cell; clear bR1 hne hpre hB1
    gi_wp2
    refine ⟨by simp, .inl ⟨_, _, rfl, run_takeDeferred hK, ?_⟩⟩; have hc5 := cell_kept cR (grownBy_putObj' _ D (.deferred none)) (fun r e => by cases e; exact ⟨_, hK, rfl⟩); refine ⟨.int .i64 (firstE ((bef.map Nd.info).map (nodE fs B))), ?_, by rw [HV3.out], HBW.out.trans (belowK_b (w := w) (Nat.le_refl _) W D _ _ (by omega) hK rfl rfl)⟩; simp [results, Tryz.results56, go_sem, hc5]
end Go.Proofs.YtpejflgdehioaaaGreatDoor.ItW
namespace Go.Proofs.YtpejflgdehioaaaGreatDoor.ItW
open Go Go.RowKit Go.Proofs.YtpejflgdehioaaaGreatDoor.NumM Go.Proofs.YtpejflgdehioaaaGreatDoor.LexW Go.Proofs.YtpejflgdehioaaaGreatDoor.LexM Go.Proofs.YtpejflgdehioaaaGreatDoor.ExM Go.Proofs.YtpejflgdehioaaaGreatDoor.ExW Go.Proofs.YtpejflgdehioaaaGreatDoor.ItM
theorem own_block {w : World} {B : Nat} {e : TypeId} {size : Nat} {v : Value} {n : Nat} {xs : List Value} (h : w.ownsRow B e size v n xs) : ∀ k, v.ownBlock = some k → B ≤ k := fun k hk => (h.lt k hk).1
theorem own_len {w : World} {base : Nat} {e : TypeId} {size n : Nat} {v : Value} {xs : List Value} (h : w.ownsRow base e size v n xs) : ∃ q c, v = .slice q n c := by
  rcases h.2 with ⟨rfl, rfl⟩ | ⟨g, cap, cur, rfl, _⟩
  · exact ⟨_, _, rfl⟩
  · exact ⟨_, _, rfl⟩
theorem own_later {w w' : World} {B : Nat} {e : TypeId} {size : Nat} {v : Value} {n : Nat} {xs : List Value} (h : w.ownsRow B e size v n xs) (hb : Below w.heap.size w w') : w'.ownsRow B e size v n xs := by
  obtain ⟨hl, h | ⟨g, cap, cur, hv, hB, hg, h1, h2, h3, h4⟩⟩ := h
  · exact ⟨hl, .inl h⟩
  · exact ⟨hl, .inr ⟨g, cap, cur, hv, hB, (hb.block g (Array.getElem?_eq_some_iff.1 hg).1).trans hg, h1, h2, h3, h4⟩⟩
theorem wpList_append_run {P : Program} {w : World} {ops : Array Oper} {rest : List Oper} {o : Oper} {a : Act} {Q : Exit → Act → World → Prop} (hgd : o.guard = none) (s x : Operand) (t tx : TypeId)
    (ho : o.op = .call { callee := .builtin .append, args := #[s, x], argTypes := #[t, tx] }) (sv xv : Value) (hs : a.eval s = sv) (hx : a.eval x = xv) (v' : Value) (w' : World) (hr : ∀ ty, (Builtin.append_ #[t, tx] ty #[sv, xv]).run P w = .ok v' w')
    (h : wpList P ops Q rest (a.put o.dst v') w') : wpList P ops Q (o :: rest) a w := by
  refine (wpList_plain hgd fun K hK => ?_); unfold Oper.wp execOp; simp only [ho, resolve, invoke, builtin, Sem.run_bind, Sem.run_pure, Result.andThen_ok, List.map_toArray, List.map_cons, List.map_nil, hs, hx, hr]; exact hK _ _ h
theorem run_append_nil {P : Program} {w : World} (t ty : TypeId) (base : Nat) (e : TypeId) (i : TypeInfo) (ht : P.underlying t = some (.slice e)) (hi : P.info? e = some i) {v : Value} {n c : Nat} {xs : List Value} (hown : w.ownsRow base e i.size v n xs) :
    (Builtin.append_ #[t, t] ty #[v, .slice none 0 c]).run P w = .ok v w := by
  obtain ⟨_, ⟨hv, hn⟩ | ⟨g, cap, cur, hv, hB, hg, h1, h2, h3, h4⟩⟩ := hown
  · rw [hv]; simp [Builtin.append_, Builtin.lenOf, run_underlying ht, sizeOf, typeInfo, hi, run_firstCells_none]
  · rw [hv]; exact run_append_room_src w t t ty e i ht hi g 0 n cap (.slice none 0 c) 0 [] (Src.ofNil w ht c) (by omega) (fun j hj => by simp at hj) (fun j hj => by simp at hj)
theorem own_StA {W : World} {B : Nat} {v : Value} {l : List ByteArray} (h : W.ownsRow B 9 1 v l.length (l.map Value.string)) (hl : l.length * 16 ≤ 140737488351232) (hs : ∀ s ∈ l, s.size ≤ 140737488351232) : StA W.heap.size W v l := by
  obtain ⟨_, ⟨hv, hn⟩ | ⟨g, cap, cur, hv, hB, hg, hle, _, _, htake⟩⟩ := h
  · exact ⟨none, 0, by rw [hv, hn], hl, by omega, hs, fun x => by omega⟩
  · refine ⟨some ⟨g, 0, none⟩, cap, hv, hl, hle, hs, fun _ => ⟨g, 0, rfl, (Array.getElem?_eq_some_iff.1 hg).1, fun i s hi => ?_⟩⟩; rw [cell_of_row W g _ cur 9 (0, 0) hg, Nat.zero_add]; have hl := (List.getElem?_eq_some_iff.1 hi).1; have : (cur.toList.take (l.length * 1))[i]? = some (.string s) := (by rw [htake, List.getElem?_map, hi]; rfl); rw [List.getElem?_take, if_pos (by omega)] at this
    simpa using this
set_option maxRecDepth 100000 in
set_option maxHeartbeats 4000000 in
theorem grow_any (n : Nat) (w : World) (hn : n ≤ 1000000) :
    Calls Tryz.prog 113 #[.slice none 0 0, .int .i64 n] w fun e w' => ∃ v, e = .returned v ∧ w'.ownsRow w.heap.size 9 1 v 0 [] ∧ Below w.heap.size w w' := by
  obtain ⟨i0, hi, hz0, hz1, hz2⟩ := info_parts infoS; rcases Nat.eq_zero_or_pos n with h | h
  · subst h
    go_enter Tryz.func113, Tryz.ntmps113
    go_wp2; go_ret; exact ⟨_, rfl, World.ownsRow_nil _ _ _ _, Below.refl _ _⟩
  · have hrz : ∀ ty, (Builtin.append_ #[27, 3] ty #[.slice none 0 0, .int .i64 (n : Int)]).run Tryz.prog w = _ := (fun ty => Lib.run_append_grow_zeros w 27 3 ty 9 i0 (.string ⟨#[]⟩) .i64 .i64 Tryz.underlying27 Tryz.underlying3 hi hz0 none 0 0 [] (run_firstCells_none w.drew i0.size 0 0 0) n h (by omega) (by omega) (by omega) (by rw [hz2]; omega) (growslice_fits (by omega) (by rw [hz2]; omega))); simp only [Nat.zero_add] at hrz; obtain ⟨G, hG⟩ : ∃ G, grownCap w n 0 9 = G := ⟨_, rfl⟩; have hge : n ≤ G := (by rw [← hG]; exact grownCap_ge _ _ _ _); have hle : G ≤ 9223372036854775807 := by
      have := grownCap_le_maxLen w n 0 9 (by unfold maxLen; omega); rw [hG] at this; unfold maxLen at this; omega
    rw [hG] at hrz; obtain ⟨C, hC⟩ : ∃ C, (([] : List Value).toArray ++ Builtin.zeroCells (Value.string ⟨#[]⟩).cells n ++ Builtin.zeroCells (Value.string ⟨#[]⟩).cells (G - n)) = C := ⟨_, rfl⟩; have hCs : C.size = G * 1 := by
      rw [← hC]; simp only [Array.size_append, size_zeroCells]; simp [Value.cells]; omega
    rw [hC] at hrz; have HO : Hid ((w.drew.alloc (.cells C 9)).ownsRow w.heap.size 9 1 (.slice (some ⟨w.drew.heap.size, 0, none⟩) 0 G) 0 []) := Lib.hid (World.ownsRow_made w.drew C G (Nat.le_refl _) (by unfold maxLen; omega) hCs); have HB : Hid (Below w.heap.size w (w.drew.alloc (.cells C 9))) := Lib.hid ((Below.refl _ _).drew.alloc (Nat.le_refl _) _); clear hG hC hCs hi hz0 hz1 hz2; have HR := Lib.hid hrz; clear hrz
    go_enter Tryz.func113, Tryz.ntmps113
    go_wp2_with (at_builtin; go_loud (refine wpList_append_run rfl _ _ 27 3 rfl (.slice none 0 0) (.int .i64 (n : Int)) rfl rfl _ _ HR.out ?_))
    go_ret; exact ⟨_, rfl, HO.out, HB.out⟩
def smS (a b : Nat) : Nat → Nat
  | 0 => 0
  | 1 => a
  | _ => a + b
def cxS (f g : List ByteArray) : Nat → List Value
  | 0 => []
  | 1 => f.map Value.string
  | _ => f.map Value.string ++ g.map Value.string
theorem StA.news {N : Nat} {w : World} {ad : Addr} {n c : Nat} {l : List ByteArray} (h : StA N w (.slice (some ad) n c) l) : n = l.length ∧ ∀ W, Below N w W → ∀ j u, (l.map Value.string)[j]? = some u → W.cell? (ad.add j) = some u := by
  obtain ⟨p, cap, e, _, _, _, hp⟩ := h; simp only [Value.slice.injEq] at e; obtain ⟨rfl, rfl, rfl⟩ := e; refine ⟨rfl, fun W hW j u hu => ?_⟩; rw [List.getElem?_map] at hu; obtain ⟨s, hs, rfl⟩ := Option.map_eq_some_iff.1 hu; have hj := (List.getElem?_eq_some_iff.1 hs).1; obtain ⟨b, off, e, hb, hc⟩ := hp (by omega); cases e; have := low_cells hW _ _ hb _ (hc j s hs); rcases Nat.eq_zero_or_pos j with rfl | h0
  · simpa [Addr.add] using this
  · have hj0 : j ≠ 0 := by omega
    simpa [Addr.add, hj0] using this
theorem StA.none_len {N : Nat} {w : World} {n c : Nat} {l : List ByteArray} (h : StA N w (.slice none n c) l) : n = 0 ∧ l = [] := by
  obtain ⟨p, cap, e, _, _, _, hp⟩ := h; simp only [Value.slice.injEq] at e; obtain ⟨rfl, rfl, rfl⟩ := e; rcases Nat.eq_zero_or_pos l.length with h | h
  · exact ⟨h, List.length_eq_zero_iff.1 h⟩
  · obtain ⟨_, _, e, _⟩ := hp h; cases e
theorem one_str (l : List ByteArray) : ∀ u ∈ l.map Value.string, u.oneCell' = true := fun u hu => by
  obtain ⟨s, _, rfl⟩ := List.mem_map.1 hu; rfl
set_option maxRecDepth 100000 in
set_option maxHeartbeats 8000000 in
theorem concatS_any (f g : List ByteArray) (v1 v2 : Value) (a N : Nat) (w : World) (hA : Blk w a [v1, v2]) (h1 : StA N w v1 f) (h2 : StA N w v2 g) (hN : N ≤ w.heap.size) (hl : f.length + g.length ≤ 100000) :
    Calls Tryz.prog 68 #[.slice (some ⟨a, 0, none⟩) 2 2] w fun e w' => ∃ v, e = .returned v ∧ w'.ownsRow w.heap.size 9 1 v (f ++ g).length ((f ++ g).map Value.string) ∧ Below w.heap.size w w' := by
  obtain ⟨i0, hi, hz0, hz1, hz2⟩ := info_parts infoS; have s1 : ∃ p c, v1 = .slice p f.length c := (by obtain ⟨p, c, e, _⟩ := h1; exact ⟨p, c, e⟩); have s2 : ∃ p c, v2 = .slice p g.length c := (by obtain ⟨p, c, e, _⟩ := h2; exact ⟨p, c, e⟩); obtain ⟨p1, c1, rfl⟩ := s1; obtain ⟨p2, c2, rfl⟩ := s2; obtain ⟨n1, hn1⟩ : ∃ n, f.length = n := ⟨_, rfl⟩; obtain ⟨n2, hn2⟩ : ∃ n, g.length = n := ⟨_, rfl⟩; have HN1 := Lib.hid hn1; have HN2 := Lib.hid hn2; rw [hn1] at h1; rw [hn2] at h2; rw [hn1, hn2] at hA hl; have R1 := Lib.hid h1; have R2 := Lib.hid h2; have HA := Lib.hid hA; have q0 := hA.c 0 _ rfl; have q1 := hA.c 1 _ rfl; have hlt := hA.lt; clear hn1 hn2 h1 h2 hA
  go_enter Tryz.func68, Tryz.ntmps68
  go_wp2; go_loop [3, 11] (fun s i => ∃ j : Nat, j ≤ 2 ∧ i = .int .i64 j ∧ s = .int .i64 (smS n1 n2 j)) (fun _ i => 2 - (intOf i).toNat)
  case atStart => exact ⟨0, Nat.zero_le _, rfl, rfl⟩
  case round =>
    obtain ⟨j, hj, rfl, rfl⟩ := hrel; obtain rfl | rfl | rfl : j = 0 ∨ j = 1 ∨ j = 2 := by omega
    · have e0 : smS n1 n2 0 = 0 := rfl; rw [e0]; clear e0; go_wp2; go_round
      case rel => exact ⟨1, by omega, rfl, by simp [smS]⟩
      case measure => simp [intOf]
    · have e0 : smS n1 n2 1 = n1 := rfl; rw [e0]; clear e0; go_wp2; go_round
      case rel => exact ⟨2, by omega, rfl, by simp [smS]⟩
      case measure => simp [intOf]
    · have e0 : smS n1 n2 2 = n1 + n2 := rfl; rw [e0]; clear e0; have GC := Lib.hid (grow_any (n1 + n2) w (by omega)); rw [show ((n1 + n2 : Nat) : Int) = (n1 : Int) + n2 by omega] at GC ⊢; go_wp2_with (go_at_call 113; ((with_reducible refine GC.out.mono ?_); rintro e w2 ⟨v2, rfl, ho, hb⟩; have HO := Lib.hid ho; have HB := Lib.hid hb; have A2 := Lib.hid (HA.out.stay hb); clear ho hb q0 q1))
      go_loopw [6, 27] (fun u i wr => ∃ j : Nat, j ≤ 2 ∧ i = .int .i64 j ∧ Hid (wr.ownsRow w.heap.size 9 1 u (smS n1 n2 j) (cxS f g j)) ∧ Hid (Below w.heap.size w wr)) (fun _ i _ => 2 - (intOf i).toNat)
      case atStart => exact ⟨0, Nat.zero_le _, rfl, HO, HB⟩
      case round =>
        obtain ⟨j, hj, rfl, OW, BW⟩ := hrel; have AW := HA.out.stay BW.out; have q0 := AW.c 0 _ rfl; have q1 := AW.c 1 _ rfl; clear AW; obtain ⟨qp, qc, rfl⟩ := own_len OW.out; obtain rfl | rfl | rfl : j = 0 ∨ j = 1 ∨ j = 2 := by omega
        · have O0 : Hid (wr.ownsRow w.heap.size 9 1 (.slice qp 0 qc) 0 []) := OW; have e0 : smS n1 n2 0 = 0 := rfl; rw [e0]; clear e0 OW; cases p1 with
          | none =>
            obtain ⟨hk, hk2⟩ := R1.out.none_len; have RN : Hid (∀ ty, (Builtin.append_ #[27, 27] ty #[.slice qp 0 qc, .slice none n1 c1]).run Tryz.prog wr = .ok (.slice qp 0 qc) wr) := Lib.hid (fun ty => by rw [hk]; exact run_append_nil 27 ty w.heap.size 9 i0 Tryz.underlying27 hi (by rw [hz1]; exact O0.out)); have O1 : Hid (wr.ownsRow w.heap.size 9 1 (.slice qp 0 qc) n1 (f.map Value.string)) := Lib.hid (by rw [hk, hk2]; exact O0.out); clear hk hk2; go_wp2_with (at_builtin; go_loud (refine wpList_append_run rfl _ _ 27 27 rfl _ _ rfl rfl _ _ RN.out ?_))
            go_roundw
            case rel => exact ⟨1, by omega, rfl, O1, BW⟩
            case measure => simp [intOf]
          | some ad =>
            have NS := R1.out.news.2 wr (BW.out.mono hN); have N1 := one_str f; have hfl : (f.map Value.string).length = n1 * 1 := (by rw [List.length_map, HN1.out, Nat.mul_one]); have HNS := Lib.hid NS; clear NS; go_wp2_with (at_builtin; go_loud (refine wpList_append_own _ rfl _ _ 27 rfl w.heap.size 9 i0 (.string ⟨#[]⟩) 1 16 Tryz.underlying27 hi hz0 hz1 hz2 rfl (by decide) _ 0 [] rfl O0.out ad n1 c1 (f.map Value.string) rfl hfl HNS.out N1 (by unfold maxLen; omega) (by omega) BW.out.size ?_); go_loud (intro v' w3 hown' hgrow _; have O3 := Lib.hid hown'; have B3 := Lib.hid (BW.out.grown hgrow BW.out.size (own_block O0.out)); clear hown' hgrow))
            go_roundw
            case rel => exact ⟨1, by omega, rfl, Lib.hid (by have := O3.out; rw [Nat.zero_add, List.nil_append] at this; exact this), B3⟩
            case measure => simp [intOf]
        · have O0 : Hid (wr.ownsRow w.heap.size 9 1 (.slice qp n1 qc) n1 (f.map Value.string)) := OW; have e0 : smS n1 n2 1 = n1 := rfl; rw [e0]; clear e0 OW; cases p2 with
          | none =>
            obtain ⟨hk, hk2⟩ := R2.out.none_len; have RN : Hid (∀ ty, (Builtin.append_ #[27, 27] ty #[.slice qp n1 qc, .slice none n2 c2]).run Tryz.prog wr = .ok (.slice qp n1 qc) wr) := Lib.hid (fun ty => by rw [hk]; exact run_append_nil 27 ty w.heap.size 9 i0 Tryz.underlying27 hi (by rw [hz1]; exact O0.out)); have O1 : Hid (wr.ownsRow w.heap.size 9 1 (.slice qp n1 qc) (n1 + n2) (f.map Value.string ++ g.map Value.string)) := Lib.hid (by rw [hk, hk2, Nat.add_zero, List.map_nil, List.append_nil]; exact O0.out); clear hk hk2; go_wp2_with (at_builtin; go_loud (refine wpList_append_run rfl _ _ 27 27 rfl _ _ rfl rfl _ _ RN.out ?_))
            go_roundw
            case rel => exact ⟨2, by omega, rfl, O1, BW⟩
            case measure => simp [intOf]
          | some ad =>
            have NS := R2.out.news.2 wr (BW.out.mono hN); have N1 := one_str g; have hfl : (g.map Value.string).length = n2 * 1 := (by rw [List.length_map, HN2.out, Nat.mul_one]); have HNS := Lib.hid NS; clear NS; go_wp2_with (at_builtin; go_loud (refine wpList_append_own _ rfl _ _ 27 rfl w.heap.size 9 i0 (.string ⟨#[]⟩) 1 16 Tryz.underlying27 hi hz0 hz1 hz2 rfl (by decide) _ n1 (f.map Value.string) rfl O0.out ad n2 c2 (g.map Value.string) rfl hfl HNS.out N1 (by unfold maxLen; omega) (by omega) BW.out.size ?_); go_loud (intro v' w3 hown' hgrow _; have O3 := Lib.hid hown'; have B3 := Lib.hid (BW.out.grown hgrow BW.out.size (own_block O0.out)); clear hown' hgrow))
            go_roundw
            case rel => exact ⟨2, by omega, rfl, O3, B3⟩
            case measure => simp [intOf]
        · have O0 : Hid (wr.ownsRow w.heap.size 9 1 (.slice qp (n1 + n2) qc) (n1 + n2) (f.map Value.string ++ g.map Value.string)) := OW; have e0 : smS n1 n2 2 = n1 + n2 := rfl; rw [e0]; clear e0 OW q0 q1; go_wp2; go_ret; exact ⟨_, rfl, by rw [List.length_append, HN1.out, HN2.out, List.map_append]; exact O0.out, BW.out⟩
end Go.Proofs.YtpejflgdehioaaaGreatDoor.ItW
namespace Go.Proofs.YtpejflgdehioaaaGreatDoor.ItW
open Go Go.RowKit Go.Shelf Go.Proofs.YtpejflgdehioaaaGreatDoor.LexW Go.Proofs.YtpejflgdehioaaaGreatDoor.LexM Go.Proofs.YtpejflgdehioaaaGreatDoor.ExM Go.Proofs.YtpejflgdehioaaaGreatDoor.ExW Go.Proofs.YtpejflgdehioaaaGreatDoor.ItM
open Go.Proofs.YtpejflgdehioaaaGreatDoor.ClM (Fld firstE firstE_zero)
attribute [local go_sem] Oper.semAt_some
def nmL (B : List ByteArray) (L : List In) : List ByteArray := L.flatMap (nodN B)
theorem nmL_snoc (B : List ByteArray) (L : List In) (x : In) : nmL B (L ++ [x]) = nmL B L ++ nodN B x := by
  unfold nmL; rw [List.flatMap_append, List.flatMap_cons, List.flatMap_nil, List.append_nil]
theorem nmL_len (B : List ByteArray) (L : List In) : (nmL B L).length ≤ L.length := by
  induction L with
  | nil => simp [nmL]
  | cons x r ih =>
    have : (nodN B x).length ≤ 1 := (by unfold nodN; split <;> simp); show (nodN B x ++ nmL B r).length ≤ _; rw [List.length_append, List.length_cons]; omega
theorem nmL_size {B : List ByteArray} {L : List In} (h : ∀ x ∈ L, x.nm.size ≤ 140737488351232) : ∀ s ∈ nmL B L, s.size ≤ 140737488351232 := by
  intro s hs; obtain ⟨x, hx, hsx⟩ := List.mem_flatMap.1 hs; unfold nodN at hsx; split at hsx
  · rw [List.mem_singleton] at hsx; rw [hsx]; exact h x hx
  · cases hsx
structure HeldL (B lb : Nat) (l : List ByteArray) (W : World) : Prop where
  h : ∃ v, Boxed W lb 27 v ∧ W.ownsRow B 9 1 v l.length (l.map Value.string)
theorem HeldL.kept {B lb : Nat} {l : List ByteArray} {W W' : World} {row : Option Nat} (h : HeldL B lb l W) (hg : W.grownBy W' row) (hr : ∀ r, row = some r → ∃ o : Obj, W.heap[r]? = some o ∧ o.isCells = false) : HeldL B lb l W' := by
  obtain ⟨v, h1, h2⟩ := h.h; obtain ⟨v', q1, q2, _⟩ := holdsRow_own B lb 27 9 1 (fun l : List ByteArray => l.length) (fun l => l.map Value.string) (fun _ _ => True) l W W' row ⟨v, h1, h2, trivial⟩ hg hr; exact ⟨v', q1, q2⟩
theorem HeldL.later {B lb : Nat} {l : List ByteArray} {W W' : World} (h : HeldL B lb l W) (hb : Below W.heap.size W W') : HeldL B lb l W' := h.kept (grown_of_below hb) (fun r e => by cases e)
theorem heldL_own (B B2 lb : Nat) {α : Type} (f : α → List ByteArray) : OwnFrom B2 (fun (s : α) W => HeldL B lb (f s) W) := fun _ _ _ _ hs hg hr => hs.kept hg (fun r e => (hr r e).2)
theorem own_notOk {W : World} {B : Nat} {v : Value} {n : Nat} {xs : List Value} (h : W.ownsRow B 9 1 v n xs) (O : Obj) : ∀ b, v.ownBlock = some b → B ≤ b ∧ ∀ o, (W.alloc O).heap[b]? = some o → ¬ okO o := fun b eb => by
  rcases h.2 with ⟨rfl, _⟩ | ⟨g2, cap2, cur, rfl, hg2, hgb, _⟩
  · simp [Value.ownBlock] at eb
  · simp only [Value.ownBlock, Option.some.injEq] at eb; subst eb; refine ⟨hg2, fun o ho hok => ?_⟩; rw [(Below.heap_alloc W _ g2 (Array.getElem?_eq_some_iff.1 hgb).1).trans hgb] at ho; cases ho; exact hok rfl
set_option maxRecDepth 100000 in
set_option maxHeartbeats 8000000 in
theorem namesIn_any (mm : Option Nat) (B : List ByteArray) (e : Ex) (v : Value) (w : World) (hm : BMap w (.map mm) B) (hx : ExAt w.heap.size w v e) (hsz : sz e ≤ 10000) :
    Calls Tryz.prog 67 #[v, .map mm] w fun x w' => ∃ v', x = .returned v' ∧ w'.ownsRow w.heap.size 9 1 v' (exN B e).length ((exN B e).map Value.string) ∧ Below w.heap.size w w' := by
  obtain ⟨p, cap, pl, cl, rfl, hs, ha⟩ := hx.form; have HX := Lib.hid hx; have HM := Lib.hid hm; clear hx ha hm; have EV : Hid (exN B e = nmL B (pre 1 e)) := Lib.hid rfl; generalize e.op = o at *
  generalize e.n = num at *
  generalize e.nm = s at *
  generalize e.args.length = K at *
  obtain ⟨i0, hi, hz0, hz1, hz2⟩ := info_parts infoS; refine (callsIn_wide (n := 9)).1 ?_; refine callsIn_of_wp_marks Tryz.func67 rfl trivial ?_ rfl; simp only [Tryz.ntmps67, List.size_toArray, List.length_cons, List.length_nil, Nat.reduceAdd, Nat.reduceSub, Array.replicate_succ, Array.replicate_zero, List.push_toArray, List.append_toArray, List.nil_append, List.cons_append]
  gi_wp2_with (refine ⟨trivial, ?_⟩; gi_at_call 96; refine (nodesN_in Fence.wide _ trivial rfl _ _ _ _ _).mono ?_; rintro e w' ⟨rfl, rfl⟩)
  obtain ⟨O1, hO1⟩ : ∃ O : Obj, O = .cells #[.int .i64 o, .int .i64 num, .string s, .slice p K cap] 43 := ⟨_, rfl⟩; obtain ⟨O2, hO2⟩ : ∃ O : Obj, O = .cells #[.map mm] 68 := ⟨_, rfl⟩; have bM := ((Boxed.new (w.alloc O1) 68 (.map mm)).alloc (.cells #[.slice none 0 0] 27)).alloc O1; have bL := (Boxed.new ((w.alloc O1).alloc O2) 27 (.slice none 0 0)).alloc O1; have bA := Four.new (((w.alloc O1).alloc O2).alloc (.cells #[.slice none 0 0] 27)) (.int .i64 o) (.int .i64 num) (.string s) (.slice p K cap) 43; have hB0 : Below w.heap.size w ((((w.alloc O1).alloc O2).alloc (.cells #[.slice none 0 0] 27)).alloc O1) := ((((Below.refl _ w).alloc (Nat.le_refl _) _).alloc (by simp) _).alloc (by simp; omega) _).alloc (by simp; omega) _; have hz : ((((w.alloc O1).alloc O2).alloc (.cells #[.slice none 0 0] 27)).alloc O1).heap.size = w.heap.size + 4 := (by simp); subst hO1; subst hO2; simp only [World.size_alloc, Nat.add_assoc, Nat.reduceAdd] at bM bL bA; simp only [Nat.add_assoc, Nat.reduceAdd]; obtain ⟨W0, hW0⟩ : ∃ W0, ((((w.alloc (.cells #[.int .i64 o, .int .i64 num, .string s, .slice p K cap] 43)).alloc (.cells #[.map mm] 68)).alloc (.cells #[.slice none 0 0] 27)).alloc (.cells #[.int .i64 o, .int .i64 num, .string s, .slice p K cap] 43)) = W0 := ⟨_, rfl⟩; rw [hW0] at bM bL bA hB0 hz ⊢; clear hW0
  refine range_tells rfl (by decide) (gf := 147) (lb := #[.pointer (some ⟨w.heap.size + 3, 0, none⟩)]) rfl trivial (enters_of Tryz.func147 (by kernel_rfl) rfl)
    (nodesN_tells Fence.wide rfl _ trivial trivial rfl w.heap.size (w.heap.size + 3) (w.heap.size + 3) (by omega) e hsz (fun y => True) (fun _ _ => trivial) o num s (.slice p K cap) W0 (by omega) bA (HX.out.under hB0)) keepC_t (keepC_b (by omega)) (fun _ => rfl)
    (fun bef W => (HeldL w.heap.size (w.heap.size + 2) (nmL B (bef.map Nd.info)) W ∧ Boxed W (w.heap.size + 1) 68 (.map mm)) ∧ Below w.heap.size w W)
    (fun _ _ _ => False)
    (OwnFrom.and (OwnFrom.and (heldL_own _ _ _ _) (Own.from (boxed_own _ _ _) _)) (ownFrom_below (Nat.le_refl _) (by omega)))
    (fun _ _ _ _ _ hs _ _ => hs)
    ⟨⟨⟨_, bL, World.ownsRow_nil _ _ _ _⟩, bM⟩, hB0⟩ ?round ?done ?stop
  case round =>
    rintro l bef x W hl ⟨⟨hL1, bM1⟩, hB1⟩ _ hlt; have HSN : Hid (nmL B ((bef ++ [x]).map Nd.info) = nmL B (bef.map Nd.info) ++ nodN B x.info) := Lib.hid (by rw [List.map_append, List.map_cons, List.map_nil, nmL_snoc]); have hLL := nmL_len B (bef.map Nd.info); rw [List.length_map] at hLL; generalize nmL B (bef.map Nd.info) = L1 at *
    have hWs := hB1.size; have HL1 := Lib.hid hL1; have HBM1 := Lib.hid bM1; have HBW := Lib.hid hB1; have hl2 := bM1.lt; clear hL1 bM1 hB1; rw [zip2s]; have B1 := Lib.hid (ba W (.cells #[.int .i64 x.op, .int .i64 x.n, .string x.nm, .slice x.p x.k x.cap] 43)); have FI1 := Lib.hid (Blk.new W [.int .i64 x.op, .int .i64 x.n, .string x.nm, .slice x.p x.k x.cap] 43)
    gi_wp2
    refine ⟨keepsFrom_below B1.out, KeepC.of_below B1.out, ⟨⟨HL1.out.later B1.out, bxStay HBM1.out B1.out⟩, HBW.out.trans (B1.out.mono hWs)⟩, ?_⟩; rintro Wb hnear ⟨⟨hL2, bM2⟩, hB2⟩; have e0 := hnear.cell (FI1.out.c 0 _ rfl); have e2 := hnear.cell (FI1.out.c 2 _ rfl); have cM := bM2.cell; have hsb := hB2.size; have AC : Hid (∀ n W, CallsIn (Fence.wide.inRound l) n Tryz.prog 97 #[.int .i64 x.op] W fun e w' => e = .returned (.bool (isAr x.op)) ∧ W = w') := (Lib.hid fun n W => CallsIn.inRound l (callsIn_wide.2 (isArI_any x.op W))); have hlk := (HM.out.below hB2).look x.nm x.hs; have hcz := cntB_pos B x.nm; have NE : Hid (nodN B x.info = if (isAr x.op || (isVr x.op && !memB B x.nm)) = true then [x.nm] else []) := Lib.hid rfl; obtain ⟨v, hv1, hrow1⟩ := hL2.h; have hcV := hv1.cell; have hvl := hv1.lt; have HV1 := Lib.hid hv1; have HR1 := Lib.hid hrow1; have HL2 := Lib.hid hL2; have BM2 := Lib.hid bM2; have HB2 := Lib.hid hB2; have hgs := hnear.size; have hWb : W.heap.size < Wb.heap.size := (by rw [hgs]; simp); clear hB2 hnear bM2 hL2 hgs; obtain ⟨A, hA⟩ : ∃ A, isAr x.op = A := ⟨_, rfl⟩; rw [hA] at AC NE; clear hA; have FIN : Hid (nodN B x.info = [x.nm] → ∀ v' w2, w2.ownsRow w.heap.size 9 1 v' (L1.length + 1) (L1.map Value.string ++ [.string x.nm]) → (Wb.alloc (.cells #[.string x.nm] 9)).grownBy w2 v.ownBlock → ∃ g' cap', v' = .slice (some ⟨g', 0, none⟩) (L1.length + 1) cap' ∧ w2.cell? ⟨w.heap.size + 2, 0, none⟩ = some v ∧ w2.frozen? ⟨w.heap.size + 2, 0, none⟩ = false ∧
        leftT W0.heap.size (KeepC w.heap.size (w.heap.size + 3)) (fun bef W => (HeldL w.heap.size (w.heap.size + 2) (nmL B (bef.map Nd.info)) W ∧ Boxed W (w.heap.size + 1) 68 (.map mm)) ∧ Below w.heap.size w W) (fun _ _ _ => False) (bef ++ [x]) Wb .normal { tmps := #[], defers := [] } (w2.setCell ⟨w.heap.size + 2, 0, none⟩ v')) := Lib.hid (fun hnode v' w2 hown' hgrow => by
      obtain ⟨g', cap', rfl⟩ := ownsRow_succ hown'; obtain ⟨hv2, hv3, hr2, hk2, hb2⟩ := HV1.out.appended (by decide) HR1.out (by omega) (by omega) hown' hgrow; refine ⟨g', cap', rfl, hv2.cell, hv2.frozen, hk2.from _, ?_, ⟨⟨_, hv3, ?_⟩, ?_⟩, HB2.out.trans hb2⟩
      · exact ((KeepC.of_below (ba _ _)).trans (KeepC.grown hgrow fun b eb => by obtain ⟨q1, q2⟩ := own_notOk HR1.out _ b eb; exact ⟨q1, .inr q2⟩)).set (by omega) (by omega) _
      · rw [HSN.out, hnode, List.length_append, List.map_append]; exact hr2
      · exact ((BM2.out.alloc _).kept hgrow (BM2.out.not_row (by decide) HR1.out)).other (by omega) _)
    have NOT : Hid (nodN B x.info = [] → leftT W0.heap.size (KeepC w.heap.size (w.heap.size + 3)) (fun bef W => (HeldL w.heap.size (w.heap.size + 2) (nmL B (bef.map Nd.info)) W ∧ Boxed W (w.heap.size + 1) 68 (.map mm)) ∧ Below w.heap.size w W) (fun _ _ _ => False) (bef ++ [x]) Wb .normal { tmps := #[], defers := [] } Wb) := Lib.hid (fun hnode => by
      refine ⟨KeepsFrom.refl _ _, KeepC.refl _ _ _, ⟨?_, BM2.out⟩, HB2.out⟩; rw [HSN.out, hnode, List.append_nil]; exact HL2.out)
    have HROW := Lib.hid (hrow1.alloc (.cells #[.string x.nm] 9)); clear hv1 hrow1; cases A
    · have q2 : (x.op == 2) = isVr x.op := (by unfold isVr; rw [Bool.eq_iff_iff]; simp); obtain ⟨V, hV⟩ : ∃ V, isVr x.op = V := ⟨_, rfl⟩; rw [hV] at q2 NE; clear hV; cases V
      · have HN : Hid (nodN B x.info = []) := Lib.hid (by rw [NE.out]; rfl)
        gi_wp2_with (first | (refine ⟨trivial, ?_⟩; gi_at_call 97; refine (AC.out _ _).mono ?_; rintro e w2 ⟨rfl, rfl⟩))
        exact NOT.out HN.out
      · obtain ⟨M, hM⟩ : ∃ M, memB B x.nm = M := ⟨_, rfl⟩; rw [hM] at NE hcz; cases M
        · have hc0 : cntB B x.nm = 0 := hcz.2.2 rfl; rw [hc0] at hlk; have HN : Hid (nodN B x.info = [x.nm]) := Lib.hid (by rw [NE.out]; rfl); clear hcz hM hc0 NE
          gi_wp2_with (first | (refine ⟨trivial, ?_⟩; gi_at_call 97; refine (AC.out _ _).mono ?_; rintro e w2 ⟨rfl, rfl⟩) | (gi_at_builtin; refine wpListIn_append_own _ rfl _ _ 27 rfl w.heap.size 9 i0 (.string ⟨#[]⟩) 1 16 Tryz.underlying27 hi hz0 hz1 hz2 rfl (by decide) _ _ _ rfl HROW.out ⟨Wb.heap.size, 0, none⟩ 1 1 [.string x.nm] rfl rfl (cell_one_new _ _ _) (by simp [Value.oneCell']) (by unfold maxLen; omega) (by omega) (by simp; omega) ?_; intro v' w2 hown' hgrow _; obtain ⟨g', cap', rfl, hc1, hf1, HFIN⟩ := FIN.out HN.out v' w2 hown' hgrow; have HFI := Lib.hid HFIN; clear HFIN hown' hgrow))
          exact HFI.out
        · have hc0 : cntB B x.nm ≠ 0 := (fun h => by have := hcz.2.1 h; cases this); have hc1 : (cntB B x.nm == 0) = false := (by rw [beq_eq_false_iff_ne]; exact hc0); have HN : Hid (nodN B x.info = []) := Lib.hid (by rw [NE.out]; rfl); clear hc0 hcz hM
          gi_wp2_with (first | (refine ⟨trivial, ?_⟩; gi_at_call 97; refine (AC.out _ _).mono ?_; rintro e w2 ⟨rfl, rfl⟩))
          exact NOT.out HN.out
    · have HN : Hid (nodN B x.info = [x.nm]) := Lib.hid (by rw [NE.out]; rfl); clear hcz
      gi_wp2_with (first | (refine ⟨trivial, ?_⟩; gi_at_call 97; refine (AC.out _ _).mono ?_; rintro e w2 ⟨rfl, rfl⟩) | (gi_at_builtin; refine wpListIn_append_own _ rfl _ _ 27 rfl w.heap.size 9 i0 (.string ⟨#[]⟩) 1 16 Tryz.underlying27 hi hz0 hz1 hz2 rfl (by decide) _ _ _ rfl HROW.out ⟨Wb.heap.size, 0, none⟩ 1 1 [.string x.nm] rfl rfl (cell_one_new _ _ _) (by simp [Value.oneCell']) (by unfold maxLen; omega) (by omega) (by simp; omega) ?_; intro v' w2 hown' hgrow _; obtain ⟨g', cap', rfl, hc1, hf1, HFIN⟩ := FIN.out HN.out v' w2 hown' hgrow; have HFI := Lib.hid HFIN; clear HFIN hown' hgrow))
      exact HFI.out
  case done =>
    rintro D zs W hD hzs ⟨⟨hL1, _⟩, hB1⟩ hK; rw [hzs] at hL1; obtain ⟨v, hv, hrow⟩ := hL1.h; have hc := hv.cell; have HR := Lib.hid hrow; have HB := Lib.hid hB1; have HKD := Lib.hid hK; clear hrow hv hzs hB1 hL1
    gi_wp2
    refine ⟨by simp, .inl ⟨_, _, rfl, run_takeDeferred HKD.out, ?_⟩⟩; exact ⟨_, results_tmp rfl _ _ _, v, rfl, by rw [EV.out]; exact ownsRow_putObj HR.out _ HKD.out rfl, HB.out.trans (belowK_b (w := w) (Nat.le_refl _) W D _ _ (by omega) HKD.out rfl rfl)⟩
  case stop =>
    rintro D c bef W _ _ h _; exact h.elim
end Go.Proofs.YtpejflgdehioaaaGreatDoor.ItW
namespace Go.Proofs.YtpejflgdehioaaaGreatDoor.ItW
open Go Go.RowKit Go.Proofs.YtpejflgdehioaaaGreatDoor.NumM Go.Proofs.YtpejflgdehioaaaGreatDoor.LexW Go.Proofs.YtpejflgdehioaaaGreatDoor.LexM Go.Proofs.YtpejflgdehioaaaGreatDoor.ExM Go.Proofs.YtpejflgdehioaaaGreatDoor.ExW Go.Proofs.YtpejflgdehioaaaGreatDoor.ItM
open Go.Proofs.YtpejflgdehioaaaGreatDoor.ClM (Fld firstE firstE_zero)
theorem pre_names {N : Nat} {w : World} (e : Ex) : ∀ (v : Value) (l : Nat), ExAt N w v e → ∀ y ∈ pre l e, y.nm.size ≤ 140737488351232 := by
  induction e using Ex.ind with
  | h o n s ks ih =>
    intro v l h y hy; obtain ⟨p, cap, pl, cl, _, hs, ha⟩ := h.form; rw [pre_mk] at hy; rcases List.mem_cons.1 hy with rfl | hy
    · exact hs
    · obtain ⟨a, hm, hya⟩ := mem_pres.1 hy; obtain ⟨i, hi⟩ := List.getElem?_of_mem hm; exact ih a hm _ _ (ha.hx i a hi) y hya
structure FineI (x : It) : Prop where
  k : kindB x.kd = true
  free : freeB x = true
  d3 : x.kd = 3 → varB x.nm.data.toList = true
  d6 : x.kd = 6 → ∀ s ∈ x.bf ++ x.af, varB s.data.toList = true
  d5 : x.kd = 5 → nameB x.nm = true ∧ nameB x.ix = true
  dE : x.kd ≠ 3 → x.kd ≠ 6 → x.kd ≠ 5 → vld x.e = 0
theorem not_noVar {s : ByteArray} (h : noVar s = false) : varB s.data.toList = true := by unfold noVar at h; simpa using h
theorem fine_of {d : Nat} {x : It} (h : fltI d x = 0) : FineI x := by
  unfold fltI at h; by_cases h1 : (!kindB x.kd || (!freeB x || (decide (4 < d) || (decide (0 < d) && outK x.kd)))) = true
  · rw [if_pos h1] at h; cases h
  · rw [if_neg h1] at h; have h2 : kindB x.kd = true ∧ freeB x = true := by
      cases hk : kindB x.kd <;> cases hf : freeB x <;> simp_all
    refine ⟨h2.1, h2.2, fun e => ?_, fun e => ?_, fun e => ?_, fun n3 n6 n5 => ?_⟩
    · rw [if_pos e] at h; unfold distE at h; split at h
      · cases h
      · split at h
        · cases h
        · split at h
          · cases h
          · rename_i g; exact not_noVar (by simpa using g)
    · rw [if_neg (by omega), if_pos e] at h; unfold solveE at h; split at h
      · cases h
      · split at h
        · cases h
        · rename_i g; intro s hs; refine not_noVar ?_; have g1 : x.bf.any noVar = false ∧ x.af.any noVar = false := by
            cases hb : x.bf.any noVar <;> cases ha : x.af.any noVar <;> simp_all
          rcases List.mem_append.1 hs with hs | hs
          · have := List.any_eq_false.1 g1.1 s hs; simpa using this
          · have := List.any_eq_false.1 g1.2 s hs; simpa using this
    · rw [if_neg (by omega), if_neg (by omega), if_pos e] at h; split at h
      · assumption
      · cases h
    · rw [if_neg n3, if_neg n6, if_neg n5] at h; exact h
def NamesP (l : List ByteArray) (w : World) (e : Ending) (w' : World) : Prop := ∃ v', e = .returned v' ∧ StA w'.heap.size w' v' l ∧ (∀ ad n c, v' = .slice (some ad) n c → w.heap.size ≤ ad.block) ∧ Below w.heap.size w w'
theorem own_fresh {W : World} {B B0 : Nat} {v : Value} {n : Nat} {xs : List Value} (h : W.ownsRow B 9 1 v n xs) (hB : B0 ≤ B) : ∀ ad n c, v = .slice (some ad) n c → B0 ≤ ad.block := fun ad n c e => by
  rcases h.2 with ⟨rfl, _⟩ | ⟨g, cap, cur, rfl, hg, _⟩
  · cases e
  · simp only [Value.slice.injEq, Option.some.injEq] at e; rw [← e.1]; exact Nat.le_trans hB hg
set_option maxRecDepth 100000 in
set_option maxHeartbeats 8000000 in
theorem namesOf_any (mm : Option Nat) (B : List ByteArray) (x : It) (a4 a7 a8 a9 a10 a11 : Value) (N : Nat) (w : World) (hm : BMap w (.map mm) B) (h : IV N w a4 a7 a8 a9 a10 a11 x) (hN : N ≤ w.heap.size) (hnd : Nd1 x) :
    Calls Tryz.prog 37 #[iv x.kd x.e.op x.e.n x.e.nm a4 x.nm x.ix a7 a8 a9 a10 a11, .map mm] w (NamesP (ownN B x) w) := by
  have HS : Hid (∀ s ∈ exN B x.e, s.size ≤ 140737488351232) := Lib.hid (nmL_size (pre_names x.e _ 1 h.ex)); have HLn : Hid ((exN B x.e).length ≤ 10000) := Lib.hid (by have h1 := nmL_len B (pre 1 x.e); rw [pre_len] at h1; have := hnd.1; unfold exN nmL at *; omega); have NC : Hid (∀ W, Below w.heap.size w W → Calls Tryz.prog 67 #[xv x.e.op x.e.n x.e.nm a4, .map mm] W fun r w' => ∃ v', r = .returned v' ∧ w'.ownsRow W.heap.size 9 1 v' (exN B x.e).length ((exN B x.e).map Value.string) ∧ Below W.heap.size W w') := (Lib.hid fun W hW => namesIn_any mm B x.e _ W (hm.below hW) ((h.ex.under (hW.mono hN)).wide (by have := hW.size; omega)) hnd.1); have CC : Hid (∀ W g, Below w.heap.size w W → Blk W g [a10, a11] → Calls Tryz.prog 68 #[.slice (some ⟨g, 0, none⟩) 2 2] W fun e w' => ∃ v, e = .returned v ∧ w'.ownsRow W.heap.size 9 1 v (x.bf ++ x.af).length ((x.bf ++ x.af).map Value.string) ∧ Below W.heap.size W w') := Lib.hid fun W g hW hb =>
    concatS_any x.bf x.af a10 a11 g N W hb (h.bfs.under (hW.mono hN)) (h.afs.under (hW.mono hN)) (by have := hW.size; omega) (by have := hnd.2.2.1; have := hnd.2.2.2; omega)
  have HS2 : Hid (∀ s ∈ x.bf ++ x.af, s.size ≤ 140737488351232) := Lib.hid fun s hs => by
    obtain ⟨_, _, _, _, _, z1, _⟩ := h.bfs; obtain ⟨_, _, _, _, _, z2, _⟩ := h.afs; rcases List.mem_append.1 hs with hs | hs
    · exact z1 s hs
    · exact z2 s hs
  have HL2 : Hid ((x.bf ++ x.af).length ≤ 2000) := Lib.hid (by rw [List.length_append]; have := hnd.2.2.1; have := hnd.2.2.2; omega); have hnms := h.nm; have EO : Hid (ownN B x = if x.kd = 1 ∨ x.kd = 2 ∨ x.kd = 4 then exN B x.e else if x.kd = 3 ∨ x.kd = 5 then [x.nm] else if x.kd = 6 then x.bf ++ x.af else []) := Lib.hid rfl; obtain ⟨kd, o, n, en, p4, k4, c4, nm, ix, p7, k7, c7, p8, k8, c8, p9, k9, c9, p10, k10, c10, p11, k11, c11, ev, hv⟩ := h.open_; have ev2 := ev; simp only [Value.agg.injEq, Array.mk.injEq, List.cons.injEq] at ev2; obtain ⟨-, -, -, -, rfl, -, -, rfl, rfl, rfl, rfl, rfl, -⟩ := ev2; rw [ev]; rw [hv.e5] at hnms; have HNM := Lib.hid hv.e5; have EO2 := EO.out; rw [hv.e0, hv.e5] at EO2; have EO := Lib.hid EO2; have NC2 := NC.out; rw [hv.e1, hv.e2, hv.e3] at NC2; have NC := Lib.hid NC2; clear NC2 EO2; obtain ⟨cs, hcs⟩ : ∃ cs, cs = ics kd o n en (.slice p4 k4 c4) nm ix (.slice p7 k7 c7) (.slice p8 k8 c8) (.slice p9 k9 c9) (.slice p10 k10 c10) (.slice p11 k11 c11) := ⟨_, rfl⟩; have F0 := Blk.new w cs 55; have HB := Lib.hid (ba w (.cells cs.toArray 55)); subst hcs; have d0 := F0.c 0 _ rfl; have d1 := F0.c 1 _ rfl; have d2 := F0.c 2 _ rfl; have d3 := F0.c 3 _ rfl; have d4 := F0.c 4 _ rfl; have d5 := F0.c 5 _ rfl; have d6 := F0.c 6 _ rfl; have d7 := F0.c 7 _ rfl; have d8 := F0.c 8 _ rfl; have d9 := F0.c 9 _ rfl; have d10 := F0.c 10 _ rfl; have d11 := F0.c 11 _ rfl; have HF := Lib.hid F0; clear F0 hv h ev hm hN; by_cases hE : kd = 1 ∨ kd = 2 ∨ kd = 4
  · have E : Hid (ownN B x = exN B x.e) := Lib.hid (by rw [EO.out, if_pos hE]); rcases hE with rfl | rfl | rfl
    all_goals
      go_enter Tryz.func37, Tryz.ntmps37
      go_wp2_with (go_at_call 67; ((with_reducible refine (NC.out _ HB.out).mono ?_); rintro e w1 ⟨v', rfl, ho, hb⟩; have HO := Lib.hid ho; have HB1 := Lib.hid (HB.out.then_ hb); clear ho hb))
      go_ret; exact ⟨_, rfl, by rw [E.out]; exact own_StA HO.out (by have := HLn.out; omega) HS.out, own_fresh HO.out HB.out.size, HB1.out⟩
  · have q1 : (kd == 1) = false := (by rw [beq_eq_false_iff_ne]; omega); have q2 : (kd == 2) = false := (by rw [beq_eq_false_iff_ne]; omega); have q4 : (kd == 4) = false := (by rw [beq_eq_false_iff_ne]; omega); by_cases hN : kd = 3 ∨ kd = 5
    · have E : Hid (ownN B x = [nm]) := Lib.hid (by rw [EO.out, if_neg hE, if_pos hN]); clear hE; have FS : Hid (∀ (W : World) (g : Nat), g = W.heap.size → StA (W.alloc (.cells #[.string nm] 9)).heap.size (W.alloc (.cells #[.string nm] 9)) (.slice (some ⟨g, 0, none⟩) 1 1) [nm]) := Lib.hid fun W g hg => by
        subst hg; exact ⟨some ⟨W.heap.size, 0, none⟩, 1, rfl, by simp, Nat.le_refl _, fun s hs => by rw [List.mem_singleton] at hs; rw [hs]; exact hnms, fun _ => ⟨W.heap.size, 0, rfl, by simp, fun i s hi => by
        have hi0 : i = 0 := (by have := (List.getElem?_eq_some_iff.1 hi).1; simp at this; exact this); subst hi0; have : nm = s := (by simpa using hi); rw [← this]; exact (Blk.new W [.string nm] 9).c 0 _ rfl⟩⟩
      rcases hN with rfl | rfl
      all_goals
        go_enter Tryz.func37, Tryz.ntmps37
        go_wp2; go_ret; refine ⟨.slice (some ⟨w.heap.size + 1, 0, none⟩) 1 1, rfl, ?_, fun ad n c e => by (simp only [Value.slice.injEq, Option.some.injEq] at e; rw [← e.1]; exact Nat.le_succ _), HB.out.then_ (ba _ _)⟩; rw [E.out]; exact FS.out _ _ (by simp)
    · have q3 : (kd == 3) = false := (by rw [beq_eq_false_iff_ne]; omega); have q5 : (kd == 5) = false := (by rw [beq_eq_false_iff_ne]; omega); by_cases h6 : kd = 6
      · subst h6; have E : Hid (ownN B x = x.bf ++ x.af) := Lib.hid (by rw [EO.out]; rfl); clear hE hN q1 q2 q3 q4 q5; have bf := (Blk.new (w.alloc (.cells (ics 6 o n en (.slice p4 k4 c4) nm ix (.slice p7 k7 c7) (.slice p8 k8 c8) (.slice p9 k9 c9) (.slice p10 k10 c10) (.slice p11 k11 c11)).toArray 55)) [.slice p10 k10 c10, .slice p11 k11 c11] 27); rw [World.size_alloc] at bf; have BF := Lib.hid bf; clear bf
        go_enter Tryz.func37, Tryz.ntmps37
        go_wp2_with (go_at_call 68; ((with_reducible refine (CC.out _ _ (HB.out.then_ (ba _ _)) BF.out).mono ?_); rintro e w1 ⟨v', rfl, ho, hb⟩; have HO := Lib.hid ho; have HB1 := Lib.hid ((HB.out.then_ (ba _ _)).then_ hb); clear ho hb))
        go_ret; exact ⟨_, rfl, by rw [E.out]; exact own_StA HO.out (by have := HL2.out; omega) HS2.out, own_fresh HO.out (by have := (HB.out.then_ (ba _ (.cells #[.slice p10 k10 c10, .slice p11 k11 c11] 27))).size; exact this), HB1.out⟩
      · have E : Hid (ownN B x = []) := Lib.hid (by rw [EO.out, if_neg hE, if_neg hN, if_neg h6]); have q6 : (kd == 6) = false := (by rw [beq_eq_false_iff_ne]; exact h6); clear hE hN h6
        go_enter Tryz.func37, Tryz.ntmps37
        go_wp2; go_ret; exact ⟨_, rfl, by rw [E.out]; exact StA.nil _ _ _ _, fun ad n c e => by (have e2 : Value.slice none 0 0 = .slice (some ad) n c := e; cases e2), HB.out⟩
set_option maxRecDepth 100000 in
set_option maxHeartbeats 8000000 in
theorem checkEach_any (fb : Nat) (fs : List Fld) (mm : Option Nat) (B : List ByteArray) (x : It) (a4 a7 a8 a9 a10 a11 : Value) (N : Nat) (w : World) (hf : FsA w fb fs) (hm : BMap w (.map mm) B) (h : IV N w a4 a7 a8 a9 a10 a11 x) (hk : x.kd = 5) :
    Calls Tryz.prog 84 #[.map (some fb), iv x.kd x.e.op x.e.n x.e.nm a4 x.nm x.ix a7 a8 a9 a10 a11, .map mm] w (tInt (chkI fs B x) w) := by
  have EO : Hid (chkI fs B x = if arrE fs x.nm = 0 then (if ((szO fs x.ix).isSome || memB B x.ix) = true then 8 else 0) else arrE fs x.nm) := Lib.hid (by unfold chkI; rw [if_neg (by omega), if_neg (by omega), if_pos hk]); have AC : Hid (∀ W, Below w.heap.size w W → Calls Tryz.prog 98 #[.map (some fb), .string x.nm] W fun e w' => e = .returned (.int .i64 (arrE fs x.nm)) ∧ W = w') := (Lib.hid fun W hW => arrE_any fb fs x.nm W (hf.later hW) h.nm); have hl1 := (fun W hW => (hf.later (w' := W) hW).lookOk x.ix h.ix); have hl2 := (fun W hW => (hm.below (W' := W) hW).look x.ix h.ix); have hcz := cntB_pos B x.ix; obtain ⟨kd, o, n, en, p4, k4, c4, nm, ix, p7, k7, c7, p8, k8, c8, p9, k9, c9, p10, k10, c10, p11, k11, c11, ev, hv⟩ := h.open_; have ev2 := ev; simp only [Value.agg.injEq, Array.mk.injEq, List.cons.injEq] at ev2; obtain ⟨-, -, -, -, rfl, -, -, rfl, rfl, rfl, rfl, rfl, -⟩ := ev2; rw [ev]; rw [hv.e6] at hl1 hl2 hcz; have EO2 := EO.out; rw [hv.e6, hv.e5] at EO2; have AC2 := AC.out; rw [hv.e5] at AC2; have EO := Lib.hid EO2; have AC := Lib.hid AC2; clear EO2 AC2; obtain ⟨cs, hcs⟩ : ∃ cs, cs = ics kd o n en (.slice p4 k4 c4) nm ix (.slice p7 k7 c7) (.slice p8 k8 c8) (.slice p9 k9 c9) (.slice p10 k10 c10) (.slice p11 k11 c11) := ⟨_, rfl⟩; have F0 := Blk.new w cs 55; have HB := Lib.hid (ba w (.cells cs.toArray 55)); have hlk1 := hl1 _ HB.out; have hlk2 := hl2 _ HB.out; subst hcs; have d0 := F0.c 0 _ rfl; have d1 := F0.c 1 _ rfl; have d2 := F0.c 2 _ rfl; have d3 := F0.c 3 _ rfl; have d4 := F0.c 4 _ rfl; have d5 := F0.c 5 _ rfl; have d6 := F0.c 6 _ rfl; have d7 := F0.c 7 _ rfl; have d8 := F0.c 8 _ rfl; have d9 := F0.c 9 _ rfl; have d10 := F0.c 10 _ rfl; have d11 := F0.c 11 _ rfl; clear F0 hv h ev hm hf hl1 hl2; obtain ⟨z, hz⟩ : ∃ z, szI fs ix = z := ⟨_, rfl⟩; rw [hz] at hlk1; clear hz; generalize arrE fs nm = r at *
  generalize (szO fs ix).isSome = s at *
  by_cases hr : r = 0
  · subst hr; have EO2 : Hid (chkI fs B x = if (s || memB B ix) = true then 8 else 0) := Lib.hid (by rw [EO.out, if_pos rfl]); clear EO; obtain ⟨M, hM⟩ : ∃ M, memB B ix = M := ⟨_, rfl⟩; rw [hM] at EO2 hcz; clear hM; cases M
    · have hc0 : cntB B ix = 0 := hcz.2.2 rfl; rw [hc0] at hlk2; clear hcz hc0; cases s
      all_goals
        go_enter Tryz.func84, Tryz.ntmps84
        go_wp2_with (go_at_call 98; ((with_reducible refine (AC.out _ HB.out).mono ?_); rintro e w1 ⟨rfl, rfl⟩))
        go_ret; exact ExW.tInt_mk (by rw [EO2.out]; rfl) HB.out
    · have hc0 : 0 < cntB B ix := by
        have : cntB B ix ≠ 0 := (fun h => by have := hcz.2.1 h; cases this); have := hcz.1; omega
      clear hcz; cases s
      all_goals
        go_enter Tryz.func84, Tryz.ntmps84
        go_wp2_with (go_at_call 98; ((with_reducible refine (AC.out _ HB.out).mono ?_); rintro e w1 ⟨rfl, rfl⟩))
        go_ret; exact ExW.tInt_mk (by rw [EO2.out]; rfl) HB.out
  · have EO2 : Hid (r = chkI fs B x) := Lib.hid (by rw [EO.out, if_neg hr]); have q : (r != 0) = true := (by simpa using hr); clear EO hr hcz
    go_enter Tryz.func84, Tryz.ntmps84
    go_wp2_with (go_at_call 98; ((with_reducible refine (AC.out _ HB.out).mono ?_); rintro e w1 ⟨rfl, rfl⟩))
    go_ret; exact ExW.tInt_mk EO2.out HB.out
set_option maxRecDepth 100000 in
set_option maxHeartbeats 8000000 in
theorem check_any (fb : Nat) (fs : List Fld) (mm : Option Nat) (B : List ByteArray) (x : It) (a4 a7 a8 a9 a10 a11 : Value) (N : Nat) (w : World) (hf : FsA w fb fs) (hm : BMap w (.map mm) B) (h : IV N w a4 a7 a8 a9 a10 a11 x) (hN : N ≤ w.heap.size) (hnd : Nd1 x) (hfine : FineI x) :
    Calls Tryz.prog 44 #[.map (some fb), iv x.kd x.e.op x.e.n x.e.nm a4 x.nm x.ix a7 a8 a9 a10 a11, .map mm] w (tInt (chkI fs B x) w) := by
  have KK : x.kd = 3 ∨ x.kd = 6 ∨ x.kd = 5 ∨ (x.kd ≠ 3 ∧ x.kd ≠ 6 ∧ x.kd ≠ 5) := (by omega); have NC0 : ∀ W, Below w.heap.size w W → Calls Tryz.prog 37 #[iv x.kd x.e.op x.e.n x.e.nm a4 x.nm x.ix a7 a8 a9 a10 a11, .map mm] W (NamesP (ownN B x) W) := (fun W hW => namesOf_any mm B x _ _ _ _ _ _ N W (hm.below hW) (h.under (hW.mono hN)) (by have := hW.size; omega) hnd); have EC0 : x.kd = 5 → ∀ W, Below w.heap.size w W → Calls Tryz.prog 84 #[.map (some fb), iv x.kd x.e.op x.e.n x.e.nm a4 x.nm x.ix a7 a8 a9 a10 a11, .map mm] W (tInt (chkI fs B x) W) := (fun hk W hW => checkEach_any fb fs mm B x _ _ _ _ _ _ N W (hf.later hW) (hm.below hW) (h.under (hW.mono hN)) hk); have XC0 : x.kd ≠ 3 → x.kd ≠ 6 → x.kd ≠ 5 → ∀ W, Below w.heap.size w W → Calls Tryz.prog 56 #[.map (some fb), xv x.e.op x.e.n x.e.nm a4, .map mm] W (tInt (exE fs B x.e) W) := (fun n3 n6 n5 W hW => checkExpr_any fb fs (.map mm) B x.e _ W (hf.later hW) (hm.below hW) ⟨mm, rfl⟩ ((h.ex.under (hW.mono hN)).wide (by have := hW.size; omega)) hnd.1 ((ok_at x.e 1).1 ((vld_zero x.e).1 (hfine.dE n3 n6 n5)).1)); have UC0 : (∀ s ∈ ownN B x, varB s.data.toList = true) → ∀ W v, Below w.heap.size w W → StA W.heap.size W v (ownN B x) → Calls Tryz.prog 82 #[v, .func (.func 83) #[.map (some fb)] #[]] W (tBool ((ownN B x).any (unkB fs)) W) := fun hq W v hW hv =>
    unk_has (ownN B x) (unkB fs) v W.heap.size W hv (Nat.le_refl _) fb (fun s hs W' hW' hsz => unk_any fb fs s W' ((hf.later hW).later hW') hsz (hq s hs))
  have O3 : x.kd = 3 → ownN B x = [x.nm] := (fun hk => by unfold ownN; rw [if_neg (by omega), if_pos (.inl hk)]); have O6 : x.kd = 6 → ownN B x = x.bf ++ x.af := (fun hk => by unfold ownN; rw [if_neg (by omega), if_neg (by omega), if_pos hk]); have C36 : x.kd = 3 ∨ x.kd = 6 → (∀ s ∈ ownN B x, varB s.data.toList = true) ∧ chkI fs B x = if (ownN B x).any (unkB fs) = true then 7 else 0 := by
    rintro (hk | hk)
    · rw [O3 hk]; refine ⟨fun s hs => by rw [List.mem_singleton] at hs; rw [hs]; exact hfine.d3 hk, ?_⟩; unfold chkI; rw [if_pos hk]; simp
    · rw [O6 hk]; refine ⟨hfine.d6 hk, ?_⟩; unfold chkI; rw [if_neg (by omega), if_pos hk]
  have CX : x.kd ≠ 3 → x.kd ≠ 6 → x.kd ≠ 5 → chkI fs B x = exE fs B x.e := (fun n3 n6 n5 => by unfold chkI; rw [if_neg n3, if_neg n6, if_neg n5]); obtain ⟨kd, o, n, en, p4, k4, c4, nm, ix, p7, k7, c7, p8, k8, c8, p9, k9, c9, p10, k10, c10, p11, k11, c11, ev, hv⟩ := h.open_; have ev2 := ev; simp only [Value.agg.injEq, Array.mk.injEq, List.cons.injEq] at ev2; obtain ⟨-, -, -, -, rfl, -, -, rfl, rfl, rfl, rfl, rfl, -⟩ := ev2; rw [ev] at NC0 EC0 ⊢; rw [hv.e0] at KK EC0 XC0 C36 CX; rw [hv.e1, hv.e2, hv.e3] at XC0; obtain ⟨cs, hcs⟩ : ∃ cs, cs = ics kd o n en (.slice p4 k4 c4) nm ix (.slice p7 k7 c7) (.slice p8 k8 c8) (.slice p9 k9 c9) (.slice p10 k10 c10) (.slice p11 k11 c11) := ⟨_, rfl⟩; have F0 := Blk.new w cs 55; have HB := Lib.hid (ba w (.cells cs.toArray 55)); subst hcs; have d0 := F0.c 0 _ rfl; have d1 := F0.c 1 _ rfl; have d2 := F0.c 2 _ rfl; have d3 := F0.c 3 _ rfl; have d4 := F0.c 4 _ rfl; have d5 := F0.c 5 _ rfl; have d6 := F0.c 6 _ rfl; have d7 := F0.c 7 _ rfl; have d8 := F0.c 8 _ rfl; have d9 := F0.c 9 _ rfl; have d10 := F0.c 10 _ rfl; have d11 := F0.c 11 _ rfl; clear F0 hv h ev hm hf hN hnd hfine O3 O6; rcases KK with rfl | rfl | rfl | ⟨n3, n6, n5⟩
  · obtain ⟨c1, c2⟩ := C36 (.inl rfl); have UC := Lib.hid (UC0 c1); have NC := Lib.hid NC0; have E := Lib.hid c2; clear c1 c2 C36 UC0 NC0 EC0 XC0 CX; generalize (ownN B x).any (unkB fs) = u at *
    cases u
    all_goals
      go_enter Tryz.func44, Tryz.ntmps44
      go_wp2_with (first
        | (go_at_call 37; ((with_reducible refine (NC.out _ HB.out).mono ?_); rintro e w1 ⟨v', rfl, hst, _, hb⟩; have HST := Lib.hid hst; have HB1 := Lib.hid (HB.out.then_ hb); clear hst hb))
        | (go_at_call 82; ((with_reducible refine (UC.out _ _ HB1.out HST.out).mono ?_); rintro e w2 ⟨rfl, hb⟩; have HB2 := Lib.hid (HB1.out.then_ hb); clear hb)))
      go_ret; exact ExW.tInt_mk (by rw [E.out]; rfl) HB2.out
  · obtain ⟨c1, c2⟩ := C36 (.inr rfl); have UC := Lib.hid (UC0 c1); have NC := Lib.hid NC0; have E := Lib.hid c2; clear c1 c2 C36 UC0 NC0 EC0 XC0 CX; generalize (ownN B x).any (unkB fs) = u at *
    cases u
    all_goals
      go_enter Tryz.func44, Tryz.ntmps44
      go_wp2_with (first
        | (go_at_call 37; ((with_reducible refine (NC.out _ HB.out).mono ?_); rintro e w1 ⟨v', rfl, hst, _, hb⟩; have HST := Lib.hid hst; have HB1 := Lib.hid (HB.out.then_ hb); clear hst hb))
        | (go_at_call 82; ((with_reducible refine (UC.out _ _ HB1.out HST.out).mono ?_); rintro e w2 ⟨rfl, hb⟩; have HB2 := Lib.hid (HB1.out.then_ hb); clear hb)))
      go_ret; exact ExW.tInt_mk (by rw [E.out]; rfl) HB2.out
  · have EC := Lib.hid (EC0 rfl); clear C36 UC0 NC0 EC0 XC0 CX
    go_enter Tryz.func44, Tryz.ntmps44
    go_wp2_with (go_at_call 84; ((with_reducible refine (EC.out _ HB.out).mono ?_); rintro e w1 ⟨rfl, hb⟩; have HB1 := Lib.hid (HB.out.then_ hb); clear hb))
    go_ret; exact ⟨rfl, HB1.out⟩
  · have XC := Lib.hid (XC0 n3 n6 n5); have E := Lib.hid (CX n3 n6 n5); have f3 : (kd == 3) = false := (by rw [beq_eq_false_iff_ne]; exact n3); have f6 : (kd == 6) = false := (by rw [beq_eq_false_iff_ne]; exact n6); have f5 : (kd == 5) = false := (by rw [beq_eq_false_iff_ne]; exact n5); clear C36 UC0 NC0 EC0 XC0 CX n3 n6 n5
    go_enter Tryz.func44, Tryz.ntmps44
    go_wp2_with (go_at_call 56; ((with_reducible refine (XC.out _ HB.out).mono ?_); rintro e w1 ⟨rfl, hb⟩; have HB1 := Lib.hid (HB.out.then_ hb); clear hb))
    go_ret; exact ExW.tInt_mk E.out.symm HB1.out
end Go.Proofs.YtpejflgdehioaaaGreatDoor.ItW
namespace Go.Proofs.YtpejflgdehioaaaGreatDoor.ItW
open Go Go.RowKit Go.Shelf Go.Proofs.YtpejflgdehioaaaGreatDoor.LexW Go.Proofs.YtpejflgdehioaaaGreatDoor.LexM Go.Proofs.YtpejflgdehioaaaGreatDoor.ExM Go.Proofs.YtpejflgdehioaaaGreatDoor.ExW Go.Proofs.YtpejflgdehioaaaGreatDoor.ItM
open Go.Proofs.YtpejflgdehioaaaGreatDoor.ClM (Fld firstE firstE_zero)
attribute [local go_sem] Oper.semAt_some
def SetM (W : World) (mb : Nat) (l : List ByteArray) : Prop := W.ownsMap Tryz.prog 9 (plainElem (H := Unit) Tryz.prog 4) mb l.length (nmD l)
theorem SetM.obj {W : World} {mb : Nat} {l : List ByteArray} (h : SetM W mb l) : ∃ es ck, W.heap[mb]? = some (.map es ck) := by
  obtain ⟨es, ck, hb, _⟩ := h; exact ⟨es, ck, hb⟩
theorem SetM.lt {W : World} {mb : Nat} {l : List ByteArray} (h : SetM W mb l) : mb < W.heap.size := by
  obtain ⟨es, ck, hb⟩ := h.obj; exact (Array.getElem?_eq_some_iff.1 hb).1
structure HeldG (B lb X Y : Nat) (l : List ByteArray) (W : World) : Prop where
  h : ∃ v, Boxed W lb 27 v ∧ W.ownsRow B 9 1 v l.length (l.map Value.string) ∧ ∀ b, v.ownBlock = some b → b < X ∨ Y ≤ b
theorem HeldG.plain {B lb X Y : Nat} {l : List ByteArray} {W : World} (h : HeldG B lb X Y l W) : HeldL B lb l W := by
  obtain ⟨v, h1, h2, _⟩ := h.h; exact ⟨v, h1, h2⟩
structure Kept5 (B X Y n₁ B0 : Nat) (A W : World) : Prop where
  kc : KeepC B n₁ A W
  kf : KeepsFrom B0 A W
  be : Below B A W
  nb : ∀ b, X ≤ b → b < Y → W.heap[b]? = A.heap[b]?
theorem Kept5.refl (B X Y n₁ B0 : Nat) (A : World) : Kept5 B X Y n₁ B0 A A := ⟨KeepC.refl _ _ _, KeepsFrom.refl _ _, Below.refl _ _, fun _ _ _ => rfl⟩
theorem Kept5.trans {B X Y n₁ B0 : Nat} {A W W' : World} (h : Kept5 B X Y n₁ B0 A W) (k : Kept5 B X Y n₁ B0 W W') : Kept5 B X Y n₁ B0 A W' := ⟨h.kc.trans k.kc, h.kf.trans k.kf, h.be.trans k.be, fun b h1 h2 => (k.nb b h1 h2).trans (h.nb b h1 h2)⟩
theorem HeldG.step {B lb X Y n₁ B0 : Nat} {l : List ByteArray} {W : World} {s : ByteArray} {v v' : Value} {w2 : World} (hv1 : Boxed W lb 27 v) (hrow1 : W.ownsRow B 9 1 v l.length (l.map Value.string)) (hgap : ∀ b, v.ownBlock = some b → b < X ∨ Y ≤ b) (hlB : lb < X) (hBl : B ≤ lb) (hn1 : lb < n₁) (hX : X ≤ Y) (hY : Y ≤ W.heap.size)
    (hown' : w2.ownsRow B 9 1 v' (l.length + 1) (l.map Value.string ++ [.string s])) (hgrow : (W.alloc (.cells #[.string s] 9)).grownBy w2 v.ownBlock) (hnew : v'.ownBlock = v.ownBlock ∨ v'.ownBlock = some (W.alloc (.cells #[.string s] 9)).heap.size) :
    ∃ g' cap', v' = .slice (some ⟨g', 0, none⟩) (l.length + 1) cap' ∧ w2.cell? ⟨lb, 0, none⟩ = some v ∧ w2.frozen? ⟨lb, 0, none⟩ = false ∧ HeldG B lb X Y (l ++ [s]) (w2.setCell ⟨lb, 0, none⟩ v') ∧ Kept5 B X Y n₁ B0 W (w2.setCell ⟨lb, 0, none⟩ v') := by
  obtain ⟨g', cap', rfl⟩ := ownsRow_succ hown'; obtain ⟨hv2, hv3, hr2, hk2, hb2⟩ := hv1.appended (by decide) hrow1 (by omega) (by omega) hown' hgrow; have hsa : (W.alloc (.cells #[.string s] 9)).heap.size = W.heap.size + 1 := (by simp); refine ⟨g', cap', rfl, hv2.cell, hv2.frozen, ⟨⟨_, hv3, by rw [List.length_append, List.map_append]; exact hr2, fun b eb => ?_⟩⟩, ?_, hk2.from _, hb2, fun b h1 h2 => ?_⟩
  · rcases hnew with h | h
    · rw [h] at eb; exact hgap b eb
    · rw [h] at eb; cases eb; right; omega
  · exact ((KeepC.of_below (ba _ _)).trans (KeepC.grown hgrow fun b eb => by obtain ⟨q1, q2⟩ := own_notOk hrow1 _ b eb; exact ⟨q1, .inr q2⟩)).set (by omega) hn1 _
  · rw [Below.heap_setCell _ _ _ _ (by show b ≠ lb; omega)]; refine (hgrow.block b (by omega) (fun e => by rcases hgap b e.symm with h | h <;> omega)).trans ?_; exact Below.heap_alloc W _ b (by omega)
end Go.Proofs.YtpejflgdehioaaaGreatDoor.ItW
namespace Go.Proofs.YtpejflgdehioaaaGreatDoor.ItW
open Go Go.RowKit Go.Proofs.YtpejflgdehioaaaGreatDoor.NumM Go.Proofs.YtpejflgdehioaaaGreatDoor.LexW Go.Proofs.YtpejflgdehioaaaGreatDoor.LexM Go.Proofs.YtpejflgdehioaaaGreatDoor.ExM Go.Proofs.YtpejflgdehioaaaGreatDoor.ExW Go.Proofs.YtpejflgdehioaaaGreatDoor.ItM
open Go.Proofs.YtpejflgdehioaaaGreatDoor.ClM (Fld)
def SmF (f : Fld) : Prop := (0 ≤ f.sz ∧ f.sz ≤ 8) ∧ nmB f.nm.data.toList = true
def tSml (fs : List Fld) (w : World) (e : Ending) (w' : World) : Prop := ∃ b, e = .returned (.bool b) ∧ Below w.heap.size w w' ∧ (b = true → fs.length ≤ 20 ∧ ∀ f ∈ fs, SmF f)
theorem tSml_no {fs : List Fld} {w w' : World} (h : Below w.heap.size w w') : tSml fs w (.returned (.bool false)) w' := ⟨false, rfl, h, fun h => by cases h⟩
set_option maxRecDepth 100000 in
set_option maxHeartbeats 8000000 in
theorem small_any (fs : List Fld) (cv : Value) (N : Nat) (w : World) (hc : ClA N w cv fs) (hN : N ≤ w.heap.size) :
    Calls Tryz.prog 19 #[cv] w (tSml fs w) := by
  have NC : Hid (∀ W s, s.size ≤ 140737488351232 → Calls Tryz.prog 42 #[.string s] W (tBool (nmB s.data.toList) W)) := (Lib.hid fun W s hs => nameR_any s W hs); obtain ⟨cnm, par, vf, pb, kb, cb, rfl, p, cap, rfl, hl, hcap, hz, hp⟩ := hc; have HP := Lib.hid hp; have HZ := Lib.hid hz; obtain ⟨K, hK⟩ : ∃ K, fs.length = K := ⟨_, rfl⟩; have HK := Lib.hid hK; rw [hK] at hl ⊢; have hk47 : K ≤ 140737488351232 := (by omega); have B0 := Blk.new w [.string cnm, .string par, .slice p K cap, .slice pb kb cb] 34; have hb0 := ba w (.cells #[.string cnm, .string par, .slice p K cap, .slice pb kb cb] 34); have d2 := B0.c 2 _ rfl; have HB := Lib.hid hb0; clear hK hl hp hcap hz B0 hb0; by_cases h20 : 20 < K
  · have e20 : decide ((20 : Int) < (K : Int)) = true := decide_eq_true (by omega)
    go_enter Tryz.func19, Tryz.ntmps19
    go_wp2; go_ret; exact tSml_no HB.out
  · have e20 : decide ((20 : Int) < (K : Int)) = false := decide_eq_false (by omega); have hk20 : K ≤ 20 := (by omega); clear h20
    go_enter Tryz.func19, Tryz.ntmps19
    go_wp2; obtain ⟨W0, hW0⟩ : ∃ W0, w.alloc (.cells #[.string cnm, .string par, .slice p K cap, .slice pb kb cb] 34) = W0 := ⟨_, rfl⟩; simp only [List.toArray] at d2; rw [hW0] at HB d2 ⊢; have HD2 := Lib.hid d2; clear hW0 e20 d2; go_loopw [3] (fun i wr => ∃ j : Nat, j ≤ K ∧ i = .int .i64 j ∧ Hid (∀ f ∈ fs.take j, SmF f) ∧ Hid (Below w.heap.size w wr) ∧ Hid (wr.cell? ⟨w.heap.size, 2, none⟩ = some (.slice p K cap))) (fun i _ => K - (intOf i).toNat)
    case atStart => exact ⟨0, Nat.zero_le _, rfl, Lib.hid (fun f hf => by simp at hf), HB, HD2⟩
    case round =>
      obtain ⟨j, hj, rfl, FW, BW, CW⟩ := hrel; have d2 := CW.out; by_cases hlt : j < K
      · obtain ⟨b, off, rfl, hbN, hcell⟩ := HP.out (by rw [HK.out]; omega); obtain ⟨y, hyk⟩ : ∃ y, fs[j]? = some y := ⟨_, List.getElem?_eq_getElem (by rw [HK.out]; exact hlt)⟩; obtain ⟨q0, q1, q2, q3, q4⟩ := hcell j y hyk; have HCC : Hid (∀ W, Below w.heap.size w W → ∀ (i : Nat) (f : Fld), fs[i]? = some f → W.cell? ⟨b, off + i * 5, none⟩ = some (.string f.nm)) := (Lib.hid fun W hW i f hi => low_cells (hW.mono hN) _ _ hbN _ (hcell i f hi).1); have c0 := low_cells (BW.out.mono hN) _ _ hbN _ q0; have c2 := low_cells (BW.out.mono hN) _ _ hbN _ q2; have hys := HZ.out y (List.mem_of_getElem? hyk); have NC2 := Lib.hid (fun W => NC.out W y.nm hys); have HY := Lib.hid hyk; have HSF : Hid ((0 ≤ y.sz ∧ y.sz ≤ 8) → nmB y.nm.data.toList = true → ∀ f ∈ fs.take (j + 1), SmF f) := Lib.hid fun h1 h2 f hf => by
          obtain ⟨hjl, he⟩ := List.getElem?_eq_some_iff.1 hyk; rw [List.take_succ_eq_append_getElem hjl] at hf; rcases List.mem_append.1 hf with h | h
          · exact FW.out f h
          · simp at h; rw [h, he]; exact ⟨h1, h2⟩
        clear hcell hyk q0 q1 q2 q3 q4; generalize nmB y.nm.data.toList = u at *
        generalize y.sz = z at *
        generalize hyn : y.nm = yn at *
        by_cases h1 : z < 0
        · have e1 : decide (z < 0) = true := decide_eq_true h1; clear h1 HSF; go_wp2; go_ret; exact tSml_no BW.out
        · have e1 : decide (z < 0) = false := decide_eq_false h1; by_cases h2 : 8 < z
          · have e2 : decide (8 < z) = true := decide_eq_true h2; clear h1 h2 HSF; go_wp2; go_ret; exact tSml_no BW.out
          · have e2 : decide (8 < z) = false := decide_eq_false h2; cases u
            · clear h1 h2 HSF; go_wp2_with (go_at_call 42; ((with_reducible refine (NC2.out _).mono ?_); rintro e w1 ⟨rfl, hb⟩; have HB1 := Lib.hid (BW.out.then_ hb); clear hb))
              go_ret; exact tSml_no HB1.out
            · have HF2 := Lib.hid (HSF.out ⟨by omega, by omega⟩ rfl); clear h1 h2 HSF; go_wp2_with (go_at_call 42; ((with_reducible refine (NC2.out _).mono ?_); rintro e w1 ⟨rfl, hb⟩; have HB1 := Lib.hid (BW.out.then_ hb); have HD1 : Hid (w1.cell? ⟨w.heap.size, 2, none⟩ = some (.slice (some ⟨b, off, none⟩) K cap)) := Lib.hid (by rw [hb.cell (World.block_lt_of_cell? wr _ CW.out)]; exact CW.out); clear hb d2 c0 c2))
              go_loopw [4] (fun i w2 => ∃ i2 : Nat, i2 ≤ j ∧ i = .int .i64 i2 ∧ Hid (Below w.heap.size w w2) ∧ Hid (w2.cell? ⟨w.heap.size, 2, none⟩ = some (.slice (some ⟨b, off, none⟩) K cap))) (fun i _ => j - (intOf i).toNat)
              case atStart => exact ⟨0, Nat.zero_le _, rfl, HB1, HD1⟩
              case round =>
                rename_i w2 _ _ _; obtain ⟨i2, hi2, rfl, BW2, CW2⟩ := hrel; have d2 := CW2.out; by_cases hlt2 : i2 < j
                · obtain ⟨g, hg⟩ : ∃ g, fs[i2]? = some g := ⟨_, List.getElem?_eq_getElem (by rw [HK.out]; omega)⟩; have c0 := HCC.out _ BW2.out j y HY.out; have c1 := HCC.out _ BW2.out i2 g hg; rw [hyn] at c0; generalize g.nm = gn at *
                  by_cases e : gn.data.toList = yn.data.toList
                  · have e1 : (gn.toList == yn.toList) = true := (by rw [Lib.toList_data, Lib.toList_data, e]; simp); clear e hg; go_wp2; go_quiet (fail)
                    go_wp2; go_ret; exact tSml_no (drewB BW2.out)
                  · have e1 : (gn.toList == yn.toList) = false := (by rw [Lib.toList_data, Lib.toList_data]; simpa using e); clear e hg; go_wp2; go_quiet (fail)
                    go_wp2; go_roundw
                    case rel => exact ⟨i2 + 1, by omega, by go_num, Lib.hid (drewB BW2.out), Lib.hid (by simpa using CW2.out)⟩
                    case measure => simp [intOf]; omega
                · have hij : i2 = j := (by omega); clear hij; go_wp2; go_roundw
                  case rel => exact ⟨j + 1, by omega, by go_num, HF2, BW2, CW2⟩
                  case measure => simp [intOf]; omega
      · have HE : Hid (K ≤ 20 ∧ ∀ f ∈ fs, SmF f) := Lib.hid ⟨hk20, by have := FW.out; rw [List.take_of_length_le (by rw [HK.out]; omega)] at this; exact this⟩; go_wp2; go_ret; exact ⟨true, rfl, BW.out, fun _ => by rw [HK.out]; exact HE.out⟩
end Go.Proofs.YtpejflgdehioaaaGreatDoor.ItW
