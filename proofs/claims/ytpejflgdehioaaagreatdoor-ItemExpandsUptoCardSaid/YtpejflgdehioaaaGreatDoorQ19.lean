/-
  Laws that the card uses; no conditions beside those that each states (ItSize ItValid ItChkE ItNamesIn ItChkI ItNames ItRVal ItScM ItVar).
-/
import Derived.Deep.AppendLies
import Derived.Deep.RegionLaw
import Derived.Test.YtpejflgdehioaaaGreatDoorQ08
import Derived.Test.YtpejflgdehioaaaGreatDoorQ16
import Derived.Test.YtpejflgdehioaaaGreatDoorQ17
namespace Go.Proofs.YtpejflgdehioaaaGreatDoor.ItW
open Go Go.RowKit Go.Shelf Go.Proofs.YtpejflgdehioaaaGreatDoor.LexW Go.Proofs.YtpejflgdehioaaaGreatDoor.LexM Go.Proofs.YtpejflgdehioaaaGreatDoor.ExM Go.Proofs.YtpejflgdehioaaaGreatDoor.ExW Go.Proofs.YtpejflgdehioaaaGreatDoor.ItM
open Go.Proofs.YtpejflgdehioaaaGreatDoor.ClM (firstE)
attribute [local go_sem] Oper.semAt_some
set_option maxRecDepth 100000 in
set_option maxHeartbeats 4000000 in
theorem itemSize_any (l0 : List It) (v : Value) (w : World) (hx : ItsA w.heap.size w v l0) (hsz : iszs l0 ≤ 10000) :
    Calls Tryz.prog 12 #[v] w fun x w' => x = .returned (.int .i64 (iszs l0)) ∧ Below w.heap.size w w' := by
  obtain ⟨p, cap, V, rfl, _⟩ := hx.form; have HX := Lib.hid hx; clear hx; generalize l0.length = K at *
  refine (callsIn_wide (n := 9)).1 ?_; refine callsIn_of_wp_marks Tryz.func12 rfl trivial ?_ rfl; simp only [Tryz.ntmps12, List.size_toArray, List.length_cons, List.length_nil, Nat.reduceAdd, Nat.reduceSub, Array.replicate_succ, Array.replicate_zero, List.push_toArray, List.append_toArray, List.nil_append, List.cons_append]
  gi_wp2_with (refine ⟨trivial, ?_⟩; gi_at_call 36; refine (constraints_in Fence.wide _ trivial rfl _ _ _ _).mono ?_; rintro e w' ⟨rfl, rfl⟩)
  have bS := (Boxed.new w 3 (.int .i64 0)).alloc (.cells #[.slice p K cap] 22); have bL := Boxed.new (w.alloc (.cells #[.int .i64 0] 3)) 22 (.slice p K cap); have hB0 : Below w.heap.size w ((w.alloc (.cells #[.int .i64 0] 3)).alloc (.cells #[.slice p K cap] 22)) := ((Below.refl _ w).alloc (Nat.le_refl _) _).alloc (by simp) _; have hz : ((w.alloc (.cells #[.int .i64 0] 3)).alloc (.cells #[.slice p K cap] 22)).heap.size = w.heap.size + 2 := (by simp); simp only [World.size_alloc] at bL; obtain ⟨W0, hW0⟩ : ∃ W0, (w.alloc (.cells #[.int .i64 0] 3)).alloc (.cells #[.slice p K cap] 22) = W0 := ⟨_, rfl⟩; rw [hW0] at bS bL hB0 hz ⊢; clear hW0
  refine range_tells rfl (by decide) (gf := 65) (lb := #[.pointer (some ⟨w.heap.size + 1, 0, none⟩)]) rfl trivial (enters_of Tryz.func65 (by kernel_rfl) rfl)
    (constraints_tells Fence.wide rfl _ trivial trivial rfl w.heap.size (w.heap.size + 1) (w.heap.size + 1) (by omega) l0 hsz (fun _ => True) (fun _ _ => trivial) _ W0 (by omega) bL (HX.out.under hB0)) keepC_t (keepC_b (by omega)) (fun _ => rfl)
    (fun bef W => Boxed W w.heap.size 3 (.int .i64 bef.length) ∧ Below w.heap.size w W)
    (fun _ _ _ => False)
    (OwnFrom.and (Own.from (boxed_own _ _ _) _) (ownFrom_below (Nat.le_refl _) (by omega)))
    (fun _ _ _ _ _ hs _ _ => hs)
    ⟨bS, hB0⟩ ?round ?done ?stop
  case round =>
    rintro l bef x W hl ⟨bS1, hB1⟩ _ hlt; rw [zip2]
    gi_wp2
    refine ⟨KeepsFrom.refl _ _, KeepC.refl _ _ _, ⟨bS1, hB1⟩, ?_⟩; rintro Wb hnear ⟨bS2, hB2⟩; have cS := bS2.cell; have fS := bS2.frozen; have hbl : bef.length ≤ 10000 := by omega
    gi_wp2
    exact ⟨(KeepsOthers.setCell _ _ _).from _, (KeepC.refl _ _ _).set (Nat.le_refl _) (by omega) _, by rw [List.length_append]; exact bS2.set _, hB2.setCell (p := ⟨w.heap.size, 0, none⟩) (by simp) _⟩
  case done =>
    rintro D zs W hD hzs ⟨bS1, hB1⟩ hK; have cS := bS1.cell; have hl : zs.length = iszs l0 := (by rw [← wks_len l0 0 [], ← hzs, List.length_map]); rw [hl] at cS; clear bS1 hl hzs
    gi_wp2
    refine ⟨by simp, .inl ⟨_, _, rfl, run_takeDeferred hK, ?_⟩⟩; exact ⟨_, results_tmp rfl _ _ _, rfl, hB1.trans (belowK_b (w := w) (Nat.le_refl _) W D _ _ (by omega) hK rfl rfl)⟩
  case stop =>
    rintro D c bef W _ _ h _; exact h.elim
end Go.Proofs.YtpejflgdehioaaaGreatDoor.ItW
namespace Go.Proofs.YtpejflgdehioaaaGreatDoor.ItW
open Go Go.RowKit Go.Shelf Go.Proofs.YtpejflgdehioaaaGreatDoor.LexW Go.Proofs.YtpejflgdehioaaaGreatDoor.LexM Go.Proofs.YtpejflgdehioaaaGreatDoor.ExM Go.Proofs.YtpejflgdehioaaaGreatDoor.ExW Go.Proofs.YtpejflgdehioaaaGreatDoor.ItM
open Go.Proofs.YtpejflgdehioaaaGreatDoor.ClM (firstE firstE_zero)
attribute [local go_sem] Oper.semAt_some
theorem below_in {n₀ : Nat} {A B C : World} (h : Below n₀ A B) (k : Below n₀ A C) : ∀ b o, b < n₀ → ∀ v, B.cell? ⟨b, o, none⟩ = some v → C.cell? ⟨b, o, none⟩ = some v := fun b o hlt _ hv =>
  (k.cell (p := ⟨b, o, none⟩) hlt).trans ((h.cell (p := ⟨b, o, none⟩) hlt).symm.trans hv)
theorem first_of {L : List Pl} {q M : List Pl} {g : Pl → Int} (h : q <+: L) (hL : L = M) (hne : firstE (q.map g) ≠ 0) : firstE (M.map g) = firstE (q.map g) := by
  subst hL; obtain ⟨r, rfl⟩ := h; rw [List.map_append, firstE_append, if_neg hne]
set_option maxRecDepth 100000 in
set_option maxHeartbeats 8000000 in
theorem itemValid_any (l0 : List It) (v : Value) (w : World) (hx : ItsA w.heap.size w v l0) (hsz : iszs l0 ≤ 10000) (hrs : RsL l0) (ht : Tab w) :
    Calls Tryz.prog 17 #[v] w (tInt (validI l0) w) := by
  obtain ⟨p, cap, V, rfl, hri⟩ := hx.form; have hK0 : l0.length ≤ 140737488351232 := (by have := hri.hl; omega); have HX := Lib.hid hx; have HT := Lib.hid ht; have HRS : Hid (∀ q ∈ wks 0 [] l0, Nd1 q.x) := Lib.hid (rs_wks l0 0 [] hrs); have SC : Hid (∀ n W, Below w.heap.size w W → CallsIn Fence.wide n Tryz.prog 12 #[.slice p l0.length cap] W fun x w' => x = .returned (.int .i64 (iszs l0)) ∧ Below W.heap.size W w') := (Lib.hid fun n W hW => callsIn_wide.2 (itemSize_any l0 _ W ((HX.out.under hW).wide hW.size) hsz)); clear hx ht hrs hri; generalize l0.length = K at *
  refine (callsIn_wide (n := 9)).1 ?_; refine callsIn_of_wp_marks Tryz.func17 rfl trivial ?_ rfl; simp only [Tryz.ntmps17, List.size_toArray, List.length_cons, List.length_nil, Nat.reduceAdd, Nat.reduceSub, Array.replicate_succ, Array.replicate_zero, List.push_toArray, List.append_toArray, List.nil_append, List.cons_append]; have hbR : Below w.heap.size w (w.alloc (.cells #[.int .i64 0] 29)) := (Below.refl _ _).alloc (Nat.le_refl _) _; have HBR := Lib.hid hbR; have HR0 := Lib.hid (Boxed.new w 29 (.int .i64 0)); clear hbR; obtain ⟨Z, hZ⟩ : ∃ Z, iszs l0 = Z := ⟨_, rfl⟩; have HV : Hid (validI l0 = if 64 < Z then 2 else firstV l0) := Lib.hid (by unfold validI; rw [hZ]); have HZ := Lib.hid hZ; rw [hZ] at SC hsz; clear hZ; by_cases h64 : 64 < Z
  · have q : decide ((64 : Int) < Z) = true := decide_eq_true (by omega); have E : Hid (2 = validI l0) := Lib.hid (by rw [HV.out, if_pos h64])
    gi_wp2_with (refine ⟨trivial, ?_⟩; gi_at_call 12; refine (SC.out _ _ HBR.out).mono ?_; rintro e w1 ⟨rfl, hb⟩; have bR := bxStay HR0.out hb; have cR := bR.cell; have fR := bR.frozen; have HB1 := Lib.hid (HBR.out.then_ hb); clear hb)
    refine ⟨.int .i64 2, ?_, ExW.tInt_mk E.out (HB1.out.setCell (p := ⟨w.heap.size, 0, none⟩) (by simp) _)⟩; have hc5 := World.cell?_setCell_same' w1 ⟨w.heap.size, 0, none⟩ (.int .i64 2) (by rw [cR]; rfl); simp [results, Tryz.results17, go_sem, hc5]
  · have q : decide ((64 : Int) < Z) = false := decide_eq_false (by omega); have HV2 : Hid (validI l0 = firstV l0) := Lib.hid (by rw [HV.out, if_neg h64])
    gi_wp2_with (first
      | (refine ⟨trivial, ?_⟩; gi_at_call 12; refine (SC.out _ _ HBR.out).mono ?_; rintro e w1 ⟨rfl, hb⟩; have bR := bxStay HR0.out hb; have HB1 := Lib.hid (HBR.out.then_ hb); have HR1 := Lib.hid bR; clear hb bR)
      | (refine ⟨trivial, ?_⟩; gi_at_call 36; refine (constraints_in Fence.wide _ trivial rfl _ _ _ _).mono ?_; rintro e w' ⟨rfl, rfl⟩))
    have hs1 := HB1.out.size; have hR1l := HR1.out.lt; have bR := HR1.out.alloc (.cells #[.slice p K cap] 22); have bL := Boxed.new w1 22 (.slice p K cap); have hB0 : Below w.heap.size w (w1.alloc (.cells #[.slice p K cap] 22)) := HB1.out.alloc (by omega) _; have hz : (w1.alloc (.cells #[.slice p K cap] 22)).heap.size = w1.heap.size + 1 := (by simp); obtain ⟨W0, hW0⟩ : ∃ W0, w1.alloc (.cells #[.slice p K cap] 22) = W0 := ⟨_, rfl⟩; rw [hW0] at bR bL hB0 hz ⊢; clear hW0
    refine range_tells rfl (by decide) (gf := 65) (lb := #[.pointer (some ⟨w1.heap.size, 0, none⟩)]) rfl trivial (enters_of Tryz.func65 (by kernel_rfl) rfl)
      (constraints_tells Fence.wide rfl _ trivial trivial rfl w.heap.size (w.heap.size + 1) w1.heap.size (by omega) l0 (by rw [HZ.out]; exact hsz) (fun q => Nd1 q.x) HRS.out _ W0 (by omega) bL (HX.out.under hB0)) keepC_t (keepC_b (by omega)) (fun _ => rfl)
      (fun bef W => (Boxed W w.heap.size 29 (.int .i64 0) ∧ firstE ((bef.map Pn.pl).map fltP) = 0) ∧ Below w.heap.size w W)
      (fun c bef W => (Boxed W w.heap.size 29 (.int .i64 (firstE ((bef.map Pn.pl).map fltP))) ∧ (c = .ret ∧ firstE ((bef.map Pn.pl).map fltP) ≠ 0)) ∧ Below w.heap.size w W)
      (OwnFrom.and (OwnFrom.and (Own.from (boxed_own _ _ _) _) (ownFrom_pure _ _)) (ownFrom_below (Nat.le_refl _) (by omega)))
      (fun c => OwnFrom.and (OwnFrom.and (Own.from (boxed_own _ _ _) _) (ownFrom_pure _ _)) (ownFrom_below (Nat.le_refl _) (by omega)))
      ⟨⟨bR, rfl⟩, hB0⟩ ?round ?done ?stop
    case round =>
      rintro l bef x W hl ⟨⟨bR1, hf1⟩, hB1⟩ htell hlt; have hnd := htell.2; have HMP : Hid (firstE (((bef ++ [x]).map Pn.pl).map fltP) = fltP x.pl) := Lib.hid (by rw [List.map_append, List.map_append, List.map_cons, List.map_nil, List.map_cons, List.map_nil, firstE_snoc, if_pos hf1]); have hWs := hB1.size; have hl1 := bR1.lt; have HBR1 := Lib.hid bR1; have HF1 := Lib.hid hf1; have HBW := Lib.hid hB1; clear htell bR1 hf1 hB1; have hpl : x.pl = ⟨x.d, x.B, x.x⟩ := rfl; rw [hpl] at HMP hnd; obtain ⟨d, B, it, a4, a7, a8, a9, a10, a11, mb, hd, hv⟩ := x; simp only at HMP hnd hpl ⊢; obtain ⟨p4, k4, p7, k7, p8, k8, p9, k9, p10, k10, p11, k11, rfl, rfl, rfl, rfl, rfl, rfl⟩ := hv.slices; rw [zip2]; have b1 : Below W.heap.size W ((W.alloc (.cells #[.int .i64 d, .map (some mb)] 70)).alloc (.cells (ics it.kd it.e.op it.e.n it.e.nm (.slice p4 it.e.args.length k4) it.nm it.ix (.slice p7 it.ws.length k7) (.slice p8 it.it.length k8) (.slice p9 it.el.length k9) (.slice p10 it.bf.length k10) (.slice p11 it.af.length k11)).toArray 55)) := ((Below.refl _ _).alloc (Nat.le_refl _) _).alloc (by simp) _; have FP := (Blk.new W [.int .i64 d, .map (some mb)] 70).alloc (.cells (ics it.kd it.e.op it.e.n it.e.nm (.slice p4 it.e.args.length k4) it.nm it.ix (.slice p7 it.ws.length k7) (.slice p8 it.it.length k8) (.slice p9 it.el.length k9) (.slice p10 it.bf.length k10) (.slice p11 it.af.length k11)).toArray 55); have FI := Blk.new (W.alloc (.cells #[.int .i64 d, .map (some mb)] 70)) (ics it.kd it.e.op it.e.n it.e.nm (.slice p4 it.e.args.length k4) it.nm it.ix (.slice p7 it.ws.length k7) (.slice p8 it.it.length k8) (.slice p9 it.el.length k9) (.slice p10 it.bf.length k10) (.slice p11 it.af.length k11)) 55; rw [World.size_alloc] at FI; have B1 := Lib.hid b1; have FP1 := Lib.hid FP; have FI1 := Lib.hid FI; clear b1 FP FI
      gi_wp2
      refine ⟨keepsFrom_below B1.out, KeepC.of_below B1.out, ⟨⟨bxStay HBR1.out B1.out, HF1.out⟩, HBW.out.trans (B1.out.mono hWs)⟩, ?_⟩; rintro Wb hnear ⟨⟨bR2, _⟩, hB2⟩; have d0 := hnear.cell (FP1.out.c 0 _ rfl); have e0 := hnear.cell (FI1.out.c 0 _ rfl); have e1 := hnear.cell (FI1.out.c 1 _ rfl); have e2 := hnear.cell (FI1.out.c 2 _ rfl); have e3 := hnear.cell (FI1.out.c 3 _ rfl); have e4 := hnear.cell (FI1.out.c 4 _ rfl); have e5 := hnear.cell (FI1.out.c 5 _ rfl); have e6 := hnear.cell (FI1.out.c 6 _ rfl); have e7 := hnear.cell (FI1.out.c 7 _ rfl); have e8 := hnear.cell (FI1.out.c 8 _ rfl); have e9 := hnear.cell (FI1.out.c 9 _ rfl); have e10 := hnear.cell (FI1.out.c 10 _ rfl); have e11 := hnear.cell (FI1.out.c 11 _ rfl); have hsb := hB2.size; have hlR := bR2.lt; have FC : Hid (∀ n, CallsIn (Fence.wide.inRound l) n Tryz.prog 40 #[iv it.kd it.e.op it.e.n it.e.nm (.slice p4 it.e.args.length k4) it.nm it.ix (.slice p7 it.ws.length k7) (.slice p8 it.it.length k8) (.slice p9 it.el.length k9) (.slice p10 it.bf.length k10) (.slice p11 it.af.length k11), .int .i64 d] Wb (tInt (fltI d it) Wb)) :=
        Lib.hid fun n => CallsIn.inRound l (callsIn_wide.2 (fault_any d hd it _ _ _ _ _ _ w.heap.size Wb (hv.kept (below_in hB0 hB2) (Nat.le_refl _)) hsb hnd.1 (HT.out.later hB2)))
      have BR2 := Lib.hid bR2; have HB2 := Lib.hid hB2; clear bR2 hB2 hnear; by_cases hf : fltI d it = 0
      · rw [hf] at FC; have HE : Hid (firstE (((bef ++ [(⟨d, B, it, .slice p4 it.e.args.length k4, .slice p7 it.ws.length k7, .slice p8 it.it.length k8, .slice p9 it.el.length k9, .slice p10 it.bf.length k10, .slice p11 it.af.length k11, mb, hd, hv⟩ : Pn w.heap.size W0)]).map Pn.pl).map fltP) = 0) := Lib.hid (by rw [HMP.out]; exact hf); clear hf
        gi_wp2_with (refine ⟨trivial, ?_⟩; gi_at_call 40; refine (FC.out _).mono ?_; rintro e w2 ⟨rfl, hb⟩; have bR3 := bxStay BR2.out hb; have HBc := Lib.hid hb; have BR3 := Lib.hid bR3; clear hb bR3)
        exact ⟨keepsFrom_below HBc.out, KeepC.of_below HBc.out, ⟨⟨BR3.out, HE.out⟩, HB2.out.trans (HBc.out.mono hsb)⟩⟩
      · have HE : Hid (firstE (((bef ++ [(⟨d, B, it, .slice p4 it.e.args.length k4, .slice p7 it.ws.length k7, .slice p8 it.it.length k8, .slice p9 it.el.length k9, .slice p10 it.bf.length k10, .slice p11 it.af.length k11, mb, hd, hv⟩ : Pn w.heap.size W0)]).map Pn.pl).map fltP) = fltI d it) := Lib.hid HMP.out; obtain ⟨E, hE0⟩ : ∃ E, fltI d it = E := ⟨_, rfl⟩; rw [hE0] at FC HE hf; clear hE0; have hE : (E != 0) = true := (by simpa using hf); have HNE := Lib.hid hf; clear hf
        gi_wp2_with (refine ⟨trivial, ?_⟩; gi_at_call 40; refine (FC.out _).mono ?_; rintro e w2 ⟨rfl, hb⟩; have bR3 := bxStay BR2.out hb; have cR := bR3.cell; have fR := bR3.frozen; have HBc := Lib.hid hb; have BR3 := Lib.hid bR3; clear hb bR3)
        refine ⟨(keepsFrom_below HBc.out).trans ((KeepsOthers.setCell _ _ _).from _), (KeepC.of_below HBc.out).set (Nat.le_refl _) (by omega) _, ⟨?_, rfl, by rw [HE.out]; exact HNE.out⟩, (HB2.out.trans (HBc.out.mono hsb)).setCell (p := ⟨w.heap.size, 0, none⟩) (by simp) _⟩; rw [HE.out]; exact BR3.out.set _
    case done =>
      rintro D zs W hD hzs ⟨⟨bR1, hf1⟩, hB1⟩ hK; have HV3 : Hid (0 = validI l0) := Lib.hid (by rw [HV2.out]; unfold firstV; rw [← hzs, hf1]); have HBW := Lib.hid hB1; have cR := bR1.cell; have fR := bR1.frozen; have HKD := Lib.hid hK; clear bR1 hf1 hzs hB1
      gi_wp2
      have hK' := (KeepsOthers.setCell W ⟨w.heap.size, 0, none⟩ (.int .i64 0)).same D _ HKD.out rfl; refine ⟨by simp, .inl ⟨_, _, rfl, run_takeDeferred hK', ?_⟩⟩; have hc5 := cell_kept (World.cell?_setCell_same' W ⟨w.heap.size, 0, none⟩ (.int .i64 0) (by rw [cR]; rfl)) (grownBy_putObj' _ D (.deferred none)) (fun r e => by cases e; exact ⟨_, hK', rfl⟩); refine ⟨.int .i64 0, ?_, by rw [HV3.out], (HBW.out.setCell (p := ⟨w.heap.size, 0, none⟩) (by simp) _).trans (belowK_b (w := w) (Nat.le_refl _) _ D _ _ (by omega) hK' rfl rfl)⟩; simp [results, Tryz.results17, go_sem, hc5]
    case stop =>
      rintro D c bef W hD hpre ⟨⟨bR1, rfl, hne⟩, hB1⟩ hK; have HV3 : Hid (firstE ((bef.map Pn.pl).map fltP) = validI l0) := Lib.hid (by rw [HV2.out]; unfold firstV; rw [first_of hpre rfl hne]); have HBW := Lib.hid hB1; have cR := bR1.cell; clear bR1 hne hpre hB1
      gi_wp2
      refine ⟨by simp, .inl ⟨_, _, rfl, run_takeDeferred hK, ?_⟩⟩; have hc5 := cell_kept cR (grownBy_putObj' _ D (.deferred none)) (fun r e => by cases e; exact ⟨_, hK, rfl⟩); refine ⟨.int .i64 (firstE ((bef.map Pn.pl).map fltP)), ?_, by rw [HV3.out], HBW.out.trans (belowK_b (w := w) (Nat.le_refl _) W D _ _ (by omega) hK rfl rfl)⟩; simp [results, Tryz.results17, go_sem, hc5]
end Go.Proofs.YtpejflgdehioaaaGreatDoor.ItW
namespace Go.Proofs.YtpejflgdehioaaaGreatDoor.ItW
open Go Go.RowKit Go.Shelf Go.Proofs.YtpejflgdehioaaaGreatDoor.LexW Go.Proofs.YtpejflgdehioaaaGreatDoor.LexM Go.Proofs.YtpejflgdehioaaaGreatDoor.ExM Go.Proofs.YtpejflgdehioaaaGreatDoor.ExW Go.Proofs.YtpejflgdehioaaaGreatDoor.ItM
open Go.Proofs.YtpejflgdehioaaaGreatDoor.ClM (Fld firstE firstE_zero)
attribute [local go_sem] Oper.semAt_some
def BMap (W : World) (mv : Value) (B : List ByteArray) : Prop := (mv = .map none ∧ B = []) ∨ ∃ mb n, mv = .map (some mb) ∧ IntMap W mb n (cntB B)
theorem BMap.below {W W' : World} {mv : Value} {B : List ByteArray} (h : BMap W mv B) (hb : Below W.heap.size W W') : BMap W' mv B := by
  rcases h with h | ⟨mb, n, e, h⟩
  · exact .inl h
  · exact .inr ⟨mb, n, e, h.below hb⟩
theorem run_look_none (W : World) (t : ByteArray) : (Instr.lookup 68 (.map none) (.string t) false).run Tryz.prog W = .ok (.int .i64 0) W := by kernel_rfl
theorem BMap.look {W : World} {mv : Value} {B : List ByteArray} (h : BMap W mv B) (t : ByteArray) (ht : t.size ≤ 140737488351232) : (Instr.lookup 68 mv (.string t) false).run Tryz.prog W = .ok (.int .i64 (cntB B t)) W := by
  rcases h with ⟨rfl, rfl⟩ | ⟨mb, n, rfl, h⟩
  · exact run_look_none W t
  · exact h.look Tryz.underlying68 t ht
theorem isArI_any (o : Int) (w : World) : Calls Tryz.prog 97 #[.int .i64 o] w fun e w' => e = .returned (.bool (isAr o)) ∧ w = w' := by
  by_cases h : o = 3
  · subst h
    go_enter Tryz.func97, Tryz.ntmps97
    go_wp2; go_ret; exact ⟨rfl, rfl⟩
  · have h0 : (o == 3) = false := (by rw [beq_eq_false_iff_ne]; exact h); have EE : Hid (isAr o = (o == 24)) := Lib.hid (by unfold isAr; rw [Bool.eq_iff_iff]; simp [h]); clear h
    go_enter Tryz.func97, Tryz.ntmps97
    go_wp2; go_ret; exact ⟨retb (by rw [EE.out]), rfl⟩
theorem firstE_of {L : List In} {q : List In} {g : In → Int} (h : q <+: L) (hne : firstE (q.map g) ≠ 0) : firstE (L.map g) = firstE (q.map g) := by
  obtain ⟨r, rfl⟩ := h; rw [List.map_append, firstE_append, if_neg hne]
theorem zip2s (a : Nat) (u : Value) (t : Array Value) : Array.foldl (fun t (x : Tmp × Value) => t.setIfInBounds x.1 x.2) t ((#[a] : Array Tmp).zip #[u]) = t.setIfInBounds a u := by
  simp [Array.zip, Array.zipWith, Array.zipWithMAux]
theorem flt_var {x : In} (h : fltS x = 0) (hv : isVr x.op = true) : varB x.nm.data.toList = true := by
  unfold fltS at h; split at h
  · cases h
  · split at h
    · cases h
    · rename_i hb; simp [badN, hv] at hb; exact hb.1
set_option maxRecDepth 100000 in
set_option maxHeartbeats 8000000 in
theorem checkExpr_any (fb : Nat) (fs : List Fld) (mv : Value) (B : List ByteArray) (e : Ex) (v : Value) (w : World) (hf : FsA w fb fs) (hm : BMap w mv B) (hmv : ∃ m, mv = .map m) (hx : ExAt w.heap.size w v e) (hsz : sz e ≤ 10000) (hok : ∀ y ∈ pre 1 e, fltS y = 0) :
    Calls Tryz.prog 56 #[.map (some fb), v, mv] w (tInt (exE fs B e) w) := by
  obtain ⟨p, cap, pl, cl, rfl, hs, ha⟩ := hx.form; have HX := Lib.hid hx; have HF := Lib.hid hf; have HM := Lib.hid hm; have HOK := Lib.hid hok; obtain ⟨mm, rfl⟩ := hmv; clear hx ha hf hm hok; have EV : Hid (exE fs B e = firstE ((pre 1 e).map (nodE fs B))) := Lib.hid rfl; generalize e.op = o at *
  generalize e.n = num at *
  generalize e.nm = s at *
  generalize e.args.length = K at *
  refine (callsIn_wide (n := 9)).1 ?_; refine callsIn_of_wp_marks Tryz.func56 rfl trivial ?_ rfl; simp only [Tryz.ntmps56, List.size_toArray, List.length_cons, List.length_nil, Nat.reduceAdd, Nat.reduceSub, Array.replicate_succ, Array.replicate_zero, List.push_toArray, List.append_toArray, List.nil_append, List.cons_append]
  gi_wp2_with (refine ⟨trivial, ?_⟩; gi_at_call 96; refine (nodesN_in Fence.wide _ trivial rfl _ _ _ _ _).mono ?_; rintro e w' ⟨rfl, rfl⟩)
  obtain ⟨O0, hO0⟩ : ∃ O : Obj, O = .cells #[.map (some fb)] 79 := ⟨_, rfl⟩; obtain ⟨O1, hO1⟩ : ∃ O : Obj, O = .cells #[.int .i64 o, .int .i64 num, .string s, .slice p K cap] 43 := ⟨_, rfl⟩; obtain ⟨O2, hO2⟩ : ∃ O : Obj, O = .cells #[.map mm] 68 := ⟨_, rfl⟩; have bF := ((((Boxed.new w 79 (.map (some fb))).alloc O1).alloc O2).alloc (.cells #[.int .i64 0] 29) |>.alloc O1); have bM := ((Boxed.new ((w.alloc O0).alloc O1) 68 (.map mm)).alloc (.cells #[.int .i64 0] 29)).alloc O1; have bR := (Boxed.new (((w.alloc O0).alloc O1).alloc O2) 29 (.int .i64 0)).alloc O1; have bA := Four.new ((((w.alloc O0).alloc O1).alloc O2).alloc (.cells #[.int .i64 0] 29)) (.int .i64 o) (.int .i64 num) (.string s) (.slice p K cap) 43; have hB0 : Below w.heap.size w (((((w.alloc O0).alloc O1).alloc O2).alloc (.cells #[.int .i64 0] 29)).alloc O1) := (((((Below.refl _ w).alloc (Nat.le_refl _) _).alloc (by simp) _).alloc (by simp; omega) _).alloc (by simp; omega) _).alloc (by simp; omega) _; have hz : (((((w.alloc O0).alloc O1).alloc O2).alloc (.cells #[.int .i64 0] 29)).alloc O1).heap.size = w.heap.size + 5 := (by simp); subst hO0; subst hO1; subst hO2; simp only [World.size_alloc, Nat.add_assoc, Nat.reduceAdd] at bF bM bR bA; simp only [Nat.add_assoc, Nat.reduceAdd]; obtain ⟨W0, hW0⟩ : ∃ W0, (((((w.alloc (.cells #[.map (some fb)] 79)).alloc (.cells #[.int .i64 o, .int .i64 num, .string s, .slice p K cap] 43)).alloc (.cells #[.map mm] 68)).alloc (.cells #[.int .i64 0] 29)).alloc (.cells #[.int .i64 o, .int .i64 num, .string s, .slice p K cap] 43)) = W0 := ⟨_, rfl⟩; rw [hW0] at bF bM bR bA hB0 hz ⊢; clear hW0
  refine range_tells rfl (by decide) (gf := 147) (lb := #[.pointer (some ⟨w.heap.size + 4, 0, none⟩)]) rfl trivial (enters_of Tryz.func147 (by kernel_rfl) rfl)
    (nodesN_tells Fence.wide rfl _ trivial trivial rfl w.heap.size (w.heap.size + 4) (w.heap.size + 4) (by omega) e hsz (fun y => fltS y = 0) HOK.out o num s (.slice p K cap) W0 (by omega) bA (HX.out.under hB0)) keepC_t (keepC_b (by omega)) (fun _ => rfl)
    (fun bef W => (((Boxed W w.heap.size 79 (.map (some fb)) ∧ Boxed W (w.heap.size + 2) 68 (.map mm)) ∧ Boxed W (w.heap.size + 3) 29 (.int .i64 0)) ∧ firstE ((bef.map Nd.info).map (nodE fs B)) = 0) ∧ Below w.heap.size w W)
    (fun c bef W => (Boxed W (w.heap.size + 3) 29 (.int .i64 (firstE ((bef.map Nd.info).map (nodE fs B)))) ∧ (c = .ret ∧ firstE ((bef.map Nd.info).map (nodE fs B)) ≠ 0)) ∧ Below w.heap.size w W)
    (OwnFrom.and (OwnFrom.and (OwnFrom.and (OwnFrom.and (Own.from (boxed_own _ _ _) _) (Own.from (boxed_own _ _ _) _)) (Own.from (boxed_own _ _ _) _)) (ownFrom_pure _ _)) (ownFrom_below (Nat.le_refl _) (by omega)))
    (fun c => OwnFrom.and (OwnFrom.and (Own.from (boxed_own _ _ _) _) (ownFrom_pure _ _)) (ownFrom_below (Nat.le_refl _) (by omega)))
    ⟨⟨⟨⟨bF, bM⟩, bR⟩, rfl⟩, hB0⟩ ?round ?done ?stop
  case round =>
    rintro l bef x W hl ⟨⟨⟨⟨bF1, bM1⟩, bR1⟩, hf1⟩, hB1⟩ hfx hlt; have HMP : Hid (firstE (((bef ++ [x]).map Nd.info).map (nodE fs B)) = nodE fs B x.info) := Lib.hid (by rw [List.map_append, List.map_append, List.map_cons, List.map_nil, List.map_cons, List.map_nil, firstE_snoc, if_pos hf1]); have hWs := hB1.size; have hl1 := bR1.lt; have HFX := Lib.hid hfx; have HBF1 := Lib.hid bF1; have HBM1 := Lib.hid bM1; have HBR1 := Lib.hid bR1; have HF1 := Lib.hid hf1; have HBW := Lib.hid hB1; clear hfx bF1 bM1 bR1 hf1 hB1; rw [zip2s]; have B1 := Lib.hid (ba W (.cells #[.int .i64 x.op, .int .i64 x.n, .string x.nm, .slice x.p x.k x.cap] 43)); have FI1 := Lib.hid (Blk.new W [.int .i64 x.op, .int .i64 x.n, .string x.nm, .slice x.p x.k x.cap] 43)
    gi_wp2
    refine ⟨keepsFrom_below B1.out, KeepC.of_below B1.out, ⟨⟨⟨⟨bxStay HBF1.out B1.out, bxStay HBM1.out B1.out⟩, bxStay HBR1.out B1.out⟩, HF1.out⟩, HBW.out.trans (B1.out.mono hWs)⟩, ?_⟩; rintro Wb hnear ⟨⟨⟨⟨bF2, bM2⟩, bR2⟩, _⟩, hB2⟩; have e0 := hnear.cell (FI1.out.c 0 _ rfl); have e2 := hnear.cell (FI1.out.c 2 _ rfl); have cF := bF2.cell; have cM := bM2.cell; have hsb := hB2.size; have hlR := bR2.lt; have AC : Hid (∀ n W, CallsIn (Fence.wide.inRound l) n Tryz.prog 97 #[.int .i64 x.op] W fun e w' => e = .returned (.bool (isAr x.op)) ∧ W = w') := (Lib.hid fun n W => CallsIn.inRound l (callsIn_wide.2 (isArI_any x.op W))); have CA : Hid (∀ n, CallsIn (Fence.wide.inRound l) n Tryz.prog 98 #[.map (some fb), .string x.nm] Wb fun e w' => e = .returned (.int .i64 (arrE fs x.nm)) ∧ Wb = w') := (Lib.hid fun n => CallsIn.inRound l (callsIn_wide.2 (arrE_any fb fs x.nm Wb (HF.out.later hB2) x.hs))); have CV : Hid (isVr x.op = true → ∀ n, CallsIn (Fence.wide.inRound l) n Tryz.prog 99 #[.map (some fb), .string x.nm] Wb (tInt (varE fs x.nm) Wb)) := (Lib.hid fun hv n => CallsIn.inRound l (callsIn_wide.2 (varE_any fb fs x.nm Wb (HF.out.later hB2) x.hs (flt_var HFX.out hv)))); have hlk := (HM.out.below hB2).look x.nm x.hs; have hcz := cntB_pos B x.nm; have NE : Hid (nodE fs B x.info = if isAr x.op = true then arrE fs x.nm else if (isVr x.op && !memB B x.nm) = true then varE fs x.nm else 0) := Lib.hid rfl; have HBF2 := Lib.hid bF2; have BR2 := Lib.hid bR2; have BM2 := Lib.hid bM2; have HB2 := Lib.hid hB2; clear bR2 hB2 hnear bF2 bM2; obtain ⟨A, hA⟩ : ∃ A, isAr x.op = A := ⟨_, rfl⟩; rw [hA] at AC NE; clear hA; have cR0 := BR2.out.cell; have fR0 := BR2.out.frozen; have HCV := CV; clear CV; cases A
    · have q2 : (x.op == 2) = isVr x.op := (by unfold isVr; rw [Bool.eq_iff_iff]; simp); obtain ⟨V, hV⟩ : ∃ V, isVr x.op = V := ⟨_, rfl⟩; rw [hV] at q2 NE; have CV2 := (fun h => HCV.out (hV.trans h)); clear HCV hV; cases V
      · have HE : Hid (nodE fs B x.info = 0) := Lib.hid (by rw [NE.out]; rfl); clear CV2
        gi_wp2_with (first | (refine ⟨trivial, ?_⟩; gi_at_call 97; refine (AC.out _ _).mono ?_; rintro e w2 ⟨rfl, rfl⟩))
        exact ⟨KeepsFrom.refl _ _, KeepC.refl _ _ _, ⟨⟨⟨⟨HBF2.out, BM2.out⟩, BR2.out⟩, by rw [HMP.out]; exact HE.out⟩, HB2.out⟩⟩
      · obtain ⟨M, hM⟩ : ∃ M, memB B x.nm = M := ⟨_, rfl⟩; rw [hM] at NE hcz; have CV3 := Lib.hid (CV2 rfl); clear CV2; cases M
        · have hc0 : cntB B x.nm = 0 := hcz.2.2 rfl; rw [hc0] at hlk; have NE2 : Hid (nodE fs B x.info = varE fs x.nm) := Lib.hid (by rw [NE.out]; rfl); obtain ⟨E, hE0⟩ : ∃ E, varE fs x.nm = E := ⟨_, rfl⟩; rw [hE0] at CV3 NE2; clear hE0 hcz hM hc0 NE; by_cases hE1 : E = 0
          · subst hE1; have HE := NE2
            gi_wp2_with (first | (refine ⟨trivial, ?_⟩; gi_at_call 97; refine (AC.out _ _).mono ?_; rintro e w2 ⟨rfl, rfl⟩) | (refine ⟨trivial, ?_⟩; gi_at_call 99; refine (CV3.out _).mono ?_; rintro e w2 ⟨rfl, hb⟩; have bR3 := bxStay BR2.out hb; have bF3 := bxStay HBF2.out hb; have bM3 := bxStay BM2.out hb; have cR := bR3.cell; have fR := bR3.frozen; have HBc := Lib.hid hb; have BR3 := Lib.hid bR3; have BF3 := Lib.hid bF3; have BM3 := Lib.hid bM3; clear hb bR3 bF3 bM3))
            exact ⟨keepsFrom_below HBc.out, KeepC.of_below HBc.out, ⟨⟨⟨⟨BF3.out, BM3.out⟩, BR3.out⟩, by rw [HMP.out]; exact HE.out⟩, HB2.out.trans (HBc.out.mono hsb)⟩⟩
          · have hE2 : (E != 0) = true := (by simpa using hE1); have HNE := Lib.hid hE1; have HE := NE2; clear hE1
            gi_wp2_with (first | (refine ⟨trivial, ?_⟩; gi_at_call 97; refine (AC.out _ _).mono ?_; rintro e w2 ⟨rfl, rfl⟩) | (refine ⟨trivial, ?_⟩; gi_at_call 99; refine (CV3.out _).mono ?_; rintro e w2 ⟨rfl, hb⟩; have bR3 := bxStay BR2.out hb; have bF3 := bxStay HBF2.out hb; have bM3 := bxStay BM2.out hb; have cR := bR3.cell; have fR := bR3.frozen; have HBc := Lib.hid hb; have BR3 := Lib.hid bR3; have BF3 := Lib.hid bF3; have BM3 := Lib.hid bM3; clear hb bR3 bF3 bM3))
            refine ⟨(keepsFrom_below HBc.out).trans ((KeepsOthers.setCell _ _ _).from _), (KeepC.of_below HBc.out).set (by omega) (by omega) _, ⟨?_, rfl, by rw [HMP.out, HE.out]; exact HNE.out⟩, (HB2.out.trans (HBc.out.mono hsb)).setCell (p := ⟨w.heap.size + 3, 0, none⟩) (by simp) _⟩; rw [HMP.out, HE.out]; exact BR3.out.set _
        · have hc0 : cntB B x.nm ≠ 0 := (fun h => by have := hcz.2.1 h; cases this); have hc1 : (cntB B x.nm == 0) = false := (by rw [beq_eq_false_iff_ne]; exact hc0); have HE : Hid (nodE fs B x.info = 0) := Lib.hid (by rw [NE.out]; rfl); clear hc0 hcz hM
          gi_wp2_with (first | (refine ⟨trivial, ?_⟩; gi_at_call 97; refine (AC.out _ _).mono ?_; rintro e w2 ⟨rfl, rfl⟩))
          exact ⟨KeepsFrom.refl _ _, KeepC.refl _ _ _, ⟨⟨⟨⟨HBF2.out, BM2.out⟩, BR2.out⟩, by rw [HMP.out]; exact HE.out⟩, HB2.out⟩⟩
    · have NE2 : Hid (nodE fs B x.info = arrE fs x.nm) := Lib.hid (by rw [NE.out]; rfl); obtain ⟨E, hE0⟩ : ∃ E, arrE fs x.nm = E := ⟨_, rfl⟩; rw [hE0] at CA NE2; clear hE0 hcz NE HCV; by_cases hE1 : E = 0
      · subst hE1; have HE := NE2
        gi_wp2_with (first | (refine ⟨trivial, ?_⟩; gi_at_call 97; refine (AC.out _ _).mono ?_; rintro e w2 ⟨rfl, rfl⟩) | (refine ⟨trivial, ?_⟩; gi_at_call 98; refine (CA.out _).mono ?_; rintro e w2 ⟨rfl, rfl⟩))
        exact ⟨KeepsFrom.refl _ _, KeepC.refl _ _ _, ⟨⟨⟨⟨HBF2.out, BM2.out⟩, BR2.out⟩, by rw [HMP.out]; exact HE.out⟩, HB2.out⟩⟩
      · have hE2 : (E != 0) = true := (by simpa using hE1); have HNE := Lib.hid hE1; have HE := NE2; clear hE1
        gi_wp2_with (first | (refine ⟨trivial, ?_⟩; gi_at_call 97; refine (AC.out _ _).mono ?_; rintro e w2 ⟨rfl, rfl⟩) | (refine ⟨trivial, ?_⟩; gi_at_call 98; refine (CA.out _).mono ?_; rintro e w2 ⟨rfl, rfl⟩))
        refine ⟨(KeepsOthers.setCell _ _ _).from _, (KeepC.refl _ _ _).set (by omega) (by omega) _, ⟨?_, rfl, by rw [HMP.out, HE.out]; exact HNE.out⟩, HB2.out.setCell (p := ⟨w.heap.size + 3, 0, none⟩) (by simp) _⟩; rw [HMP.out, HE.out]; exact BR2.out.set _
  case done =>
    rintro D zs W hD hzs ⟨⟨⟨⟨_, _⟩, bR1⟩, hf1⟩, hB1⟩ hK; have HV3 : Hid (0 = exE fs B e) := Lib.hid (by rw [EV.out, ← hzs, hf1]); have HBW := Lib.hid hB1; have cR := bR1.cell; have fR := bR1.frozen; have HKD := Lib.hid hK; clear bR1 hf1 hzs hB1
    gi_wp2
    have hK' := (KeepsOthers.setCell W ⟨w.heap.size + 3, 0, none⟩ (.int .i64 0)).same D _ HKD.out rfl; refine ⟨by simp, .inl ⟨_, _, rfl, run_takeDeferred hK', ?_⟩⟩; have hc5 := cell_kept (World.cell?_setCell_same' W ⟨w.heap.size + 3, 0, none⟩ (.int .i64 0) (by rw [cR]; rfl)) (grownBy_putObj' _ D (.deferred none)) (fun r e => by cases e; exact ⟨_, hK', rfl⟩); refine ⟨.int .i64 0, ?_, by rw [HV3.out], (HBW.out.setCell (p := ⟨w.heap.size + 3, 0, none⟩) (by simp) _).trans (belowK_b (w := w) (Nat.le_refl _) _ D _ _ (by omega) hK' rfl rfl)⟩; simp [results, Tryz.results56, go_sem, hc5]
  case stop =>
    rintro D c bef W hD hpre ⟨⟨bR1, rfl, hne⟩, hB1⟩ hK; have HV3 : Hid (firstE ((bef.map Nd.info).map (nodE fs B)) = exE fs B e) := Lib.hid (by rw [EV.out, firstE_of hpre hne]); have HBW := Lib.hid hB1; have cR := bR1.cell; clear bR1 hne hpre hB1
    gi_wp2
    refine ⟨by simp, .inl ⟨_, _, rfl, run_takeDeferred hK, ?_⟩⟩; have hc5 := cell_kept cR (grownBy_putObj' _ D (.deferred none)) (fun r e => by cases e; exact ⟨_, hK, rfl⟩); refine ⟨.int .i64 (firstE ((bef.map Nd.info).map (nodE fs B))), ?_, by rw [HV3.out], HBW.out.trans (belowK_b (w := w) (Nat.le_refl _) W D _ _ (by omega) hK rfl rfl)⟩; simp [results, Tryz.results56, go_sem, hc5]
end Go.Proofs.YtpejflgdehioaaaGreatDoor.ItW
namespace Go.Proofs.YtpejflgdehioaaaGreatDoor.ItW
open Go Go.RowKit Go.Shelf Go.Proofs.YtpejflgdehioaaaGreatDoor.LexW Go.Proofs.YtpejflgdehioaaaGreatDoor.LexM Go.Proofs.YtpejflgdehioaaaGreatDoor.ExM Go.Proofs.YtpejflgdehioaaaGreatDoor.ExW Go.Proofs.YtpejflgdehioaaaGreatDoor.ItM
open Go.Proofs.YtpejflgdehioaaaGreatDoor.ClM (Fld firstE firstE_zero)
attribute [local go_sem] Oper.semAt_some
def nmL (B : List ByteArray) (L : List In) : List ByteArray := L.flatMap (nodN B)
theorem nmL_snoc (B : List ByteArray) (L : List In) (x : In) : nmL B (L ++ [x]) = nmL B L ++ nodN B x := by
  unfold nmL; rw [List.flatMap_append, List.flatMap_cons, List.flatMap_nil, List.append_nil]
theorem nmL_len (B : List ByteArray) (L : List In) : (nmL B L).length ≤ L.length := by
  induction L with
  | nil => simp [nmL]
  | cons x r ih =>
    have : (nodN B x).length ≤ 1 := (by unfold nodN; split <;> simp); show (nodN B x ++ nmL B r).length ≤ _; rw [List.length_append, List.length_cons]; omega
theorem nmL_size {B : List ByteArray} {L : List In} (h : ∀ x ∈ L, x.nm.size ≤ 140737488351232) : ∀ s ∈ nmL B L, s.size ≤ 140737488351232 := by
  intro s hs; obtain ⟨x, hx, hsx⟩ := List.mem_flatMap.1 hs; unfold nodN at hsx; split at hsx
  · rw [List.mem_singleton] at hsx; rw [hsx]; exact h x hx
  · cases hsx
structure HeldL (B lb : Nat) (l : List ByteArray) (W : World) : Prop where
  h : ∃ v, Boxed W lb 27 v ∧ W.ownsRow B 9 1 v l.length (l.map Value.string)
theorem HeldL.kept {B lb : Nat} {l : List ByteArray} {W W' : World} {row : Option Nat} (h : HeldL B lb l W) (hg : W.grownBy W' row) (hr : ∀ r, row = some r → ∃ o : Obj, W.heap[r]? = some o ∧ o.isCells = false) : HeldL B lb l W' := by
  obtain ⟨v, h1, h2⟩ := h.h; obtain ⟨v', q1, q2, _⟩ := holdsRow_own B lb 27 9 1 (fun l : List ByteArray => l.length) (fun l => l.map Value.string) (fun _ _ => True) l W W' row ⟨v, h1, h2, trivial⟩ hg hr; exact ⟨v', q1, q2⟩
theorem HeldL.later {B lb : Nat} {l : List ByteArray} {W W' : World} (h : HeldL B lb l W) (hb : Below W.heap.size W W') : HeldL B lb l W' := h.kept (grown_of_below hb) (fun r e => by cases e)
theorem heldL_own (B B2 lb : Nat) {α : Type} (f : α → List ByteArray) : OwnFrom B2 (fun (s : α) W => HeldL B lb (f s) W) := fun _ _ _ _ hs hg hr => hs.kept hg (fun r e => (hr r e).2)
theorem own_notOk {W : World} {B : Nat} {v : Value} {n : Nat} {xs : List Value} (h : W.ownsRow B 9 1 v n xs) (O : Obj) : ∀ b, v.ownBlock = some b → B ≤ b ∧ ∀ o, (W.alloc O).heap[b]? = some o → ¬ okO o := fun b eb => by
  rcases h.2 with ⟨rfl, _⟩ | ⟨g2, cap2, cur, rfl, hg2, hgb, _⟩
  · simp [Value.ownBlock] at eb
  · simp only [Value.ownBlock, Option.some.injEq] at eb; subst eb; refine ⟨hg2, fun o ho hok => ?_⟩; rw [(Below.heap_alloc W _ g2 (Array.getElem?_eq_some_iff.1 hgb).1).trans hgb] at ho; cases ho; exact hok rfl
set_option maxRecDepth 100000 in
set_option maxHeartbeats 8000000 in
theorem namesIn_any (mm : Option Nat) (B : List ByteArray) (e : Ex) (v : Value) (w : World) (hm : BMap w (.map mm) B) (hx : ExAt w.heap.size w v e) (hsz : sz e ≤ 10000) :
    Calls Tryz.prog 67 #[v, .map mm] w fun x w' => ∃ v', x = .returned v' ∧ w'.ownsRow w.heap.size 9 1 v' (exN B e).length ((exN B e).map Value.string) ∧ Below w.heap.size w w' := by
  obtain ⟨p, cap, pl, cl, rfl, hs, ha⟩ := hx.form; have HX := Lib.hid hx; have HM := Lib.hid hm; clear hx ha hm; have EV : Hid (exN B e = nmL B (pre 1 e)) := Lib.hid rfl; generalize e.op = o at *
  generalize e.n = num at *
  generalize e.nm = s at *
  generalize e.args.length = K at *
  obtain ⟨i0, hi, hz0, hz1, hz2⟩ := info_parts infoS; refine (callsIn_wide (n := 9)).1 ?_; refine callsIn_of_wp_marks Tryz.func67 rfl trivial ?_ rfl; simp only [Tryz.ntmps67, List.size_toArray, List.length_cons, List.length_nil, Nat.reduceAdd, Nat.reduceSub, Array.replicate_succ, Array.replicate_zero, List.push_toArray, List.append_toArray, List.nil_append, List.cons_append]
  gi_wp2_with (refine ⟨trivial, ?_⟩; gi_at_call 96; refine (nodesN_in Fence.wide _ trivial rfl _ _ _ _ _).mono ?_; rintro e w' ⟨rfl, rfl⟩)
  obtain ⟨O1, hO1⟩ : ∃ O : Obj, O = .cells #[.int .i64 o, .int .i64 num, .string s, .slice p K cap] 43 := ⟨_, rfl⟩; obtain ⟨O2, hO2⟩ : ∃ O : Obj, O = .cells #[.map mm] 68 := ⟨_, rfl⟩; have bM := ((Boxed.new (w.alloc O1) 68 (.map mm)).alloc (.cells #[.slice none 0 0] 27)).alloc O1; have bL := (Boxed.new ((w.alloc O1).alloc O2) 27 (.slice none 0 0)).alloc O1; have bA := Four.new (((w.alloc O1).alloc O2).alloc (.cells #[.slice none 0 0] 27)) (.int .i64 o) (.int .i64 num) (.string s) (.slice p K cap) 43; have hB0 : Below w.heap.size w ((((w.alloc O1).alloc O2).alloc (.cells #[.slice none 0 0] 27)).alloc O1) := ((((Below.refl _ w).alloc (Nat.le_refl _) _).alloc (by simp) _).alloc (by simp; omega) _).alloc (by simp; omega) _; have hz : ((((w.alloc O1).alloc O2).alloc (.cells #[.slice none 0 0] 27)).alloc O1).heap.size = w.heap.size + 4 := (by simp); subst hO1; subst hO2; simp only [World.size_alloc, Nat.add_assoc, Nat.reduceAdd] at bM bL bA; simp only [Nat.add_assoc, Nat.reduceAdd]; obtain ⟨W0, hW0⟩ : ∃ W0, ((((w.alloc (.cells #[.int .i64 o, .int .i64 num, .string s, .slice p K cap] 43)).alloc (.cells #[.map mm] 68)).alloc (.cells #[.slice none 0 0] 27)).alloc (.cells #[.int .i64 o, .int .i64 num, .string s, .slice p K cap] 43)) = W0 := ⟨_, rfl⟩; rw [hW0] at bM bL bA hB0 hz ⊢; clear hW0
  refine range_tells rfl (by decide) (gf := 147) (lb := #[.pointer (some ⟨w.heap.size + 3, 0, none⟩)]) rfl trivial (enters_of Tryz.func147 (by kernel_rfl) rfl)
    (nodesN_tells Fence.wide rfl _ trivial trivial rfl w.heap.size (w.heap.size + 3) (w.heap.size + 3) (by omega) e hsz (fun y => True) (fun _ _ => trivial) o num s (.slice p K cap) W0 (by omega) bA (HX.out.under hB0)) keepC_t (keepC_b (by omega)) (fun _ => rfl)
    (fun bef W => (HeldL w.heap.size (w.heap.size + 2) (nmL B (bef.map Nd.info)) W ∧ Boxed W (w.heap.size + 1) 68 (.map mm)) ∧ Below w.heap.size w W)
    (fun _ _ _ => False)
    (OwnFrom.and (OwnFrom.and (heldL_own _ _ _ _) (Own.from (boxed_own _ _ _) _)) (ownFrom_below (Nat.le_refl _) (by omega)))
    (fun _ _ _ _ _ hs _ _ => hs)
    ⟨⟨⟨_, bL, World.ownsRow_nil _ _ _ _⟩, bM⟩, hB0⟩ ?round ?done ?stop
  case round =>
    rintro l bef x W hl ⟨⟨hL1, bM1⟩, hB1⟩ _ hlt; have HSN : Hid (nmL B ((bef ++ [x]).map Nd.info) = nmL B (bef.map Nd.info) ++ nodN B x.info) := Lib.hid (by rw [List.map_append, List.map_cons, List.map_nil, nmL_snoc]); have hLL := nmL_len B (bef.map Nd.info); rw [List.length_map] at hLL; generalize nmL B (bef.map Nd.info) = L1 at *
    have hWs := hB1.size; have HL1 := Lib.hid hL1; have HBM1 := Lib.hid bM1; have HBW := Lib.hid hB1; have hl2 := bM1.lt; clear hL1 bM1 hB1; rw [zip2s]; have B1 := Lib.hid (ba W (.cells #[.int .i64 x.op, .int .i64 x.n, .string x.nm, .slice x.p x.k x.cap] 43)); have FI1 := Lib.hid (Blk.new W [.int .i64 x.op, .int .i64 x.n, .string x.nm, .slice x.p x.k x.cap] 43)
    gi_wp2
    refine ⟨keepsFrom_below B1.out, KeepC.of_below B1.out, ⟨⟨HL1.out.later B1.out, bxStay HBM1.out B1.out⟩, HBW.out.trans (B1.out.mono hWs)⟩, ?_⟩; rintro Wb hnear ⟨⟨hL2, bM2⟩, hB2⟩; have e0 := hnear.cell (FI1.out.c 0 _ rfl); have e2 := hnear.cell (FI1.out.c 2 _ rfl); have cM := bM2.cell; have hsb := hB2.size; have AC : Hid (∀ n W, CallsIn (Fence.wide.inRound l) n Tryz.prog 97 #[.int .i64 x.op] W fun e w' => e = .returned (.bool (isAr x.op)) ∧ W = w') := (Lib.hid fun n W => CallsIn.inRound l (callsIn_wide.2 (isArI_any x.op W))); have hlk := (HM.out.below hB2).look x.nm x.hs; have hcz := cntB_pos B x.nm; have NE : Hid (nodN B x.info = if (isAr x.op || (isVr x.op && !memB B x.nm)) = true then [x.nm] else []) := Lib.hid rfl; obtain ⟨v, hv1, hrow1⟩ := hL2.h; have hcV := hv1.cell; have hvl := hv1.lt; have HV1 := Lib.hid hv1; have HR1 := Lib.hid hrow1; have HL2 := Lib.hid hL2; have BM2 := Lib.hid bM2; have HB2 := Lib.hid hB2; have hgs := hnear.size; have hWb : W.heap.size < Wb.heap.size := (by rw [hgs]; simp); clear hB2 hnear bM2 hL2 hgs; obtain ⟨A, hA⟩ : ∃ A, isAr x.op = A := ⟨_, rfl⟩; rw [hA] at AC NE; clear hA; have FIN : Hid (nodN B x.info = [x.nm] → ∀ v' w2, w2.ownsRow w.heap.size 9 1 v' (L1.length + 1) (L1.map Value.string ++ [.string x.nm]) → (Wb.alloc (.cells #[.string x.nm] 9)).grownBy w2 v.ownBlock → ∃ g' cap', v' = .slice (some ⟨g', 0, none⟩) (L1.length + 1) cap' ∧ w2.cell? ⟨w.heap.size + 2, 0, none⟩ = some v ∧ w2.frozen? ⟨w.heap.size + 2, 0, none⟩ = false ∧
        leftT W0.heap.size (KeepC w.heap.size (w.heap.size + 3)) (fun bef W => (HeldL w.heap.size (w.heap.size + 2) (nmL B (bef.map Nd.info)) W ∧ Boxed W (w.heap.size + 1) 68 (.map mm)) ∧ Below w.heap.size w W) (fun _ _ _ => False) (bef ++ [x]) Wb .normal { tmps := #[], defers := [] } (w2.setCell ⟨w.heap.size + 2, 0, none⟩ v')) := Lib.hid (fun hnode v' w2 hown' hgrow => by
      obtain ⟨g', cap', rfl⟩ := ownsRow_succ hown'; obtain ⟨hv2, hv3, hr2, hk2, hb2⟩ := HV1.out.appended (by decide) HR1.out (by omega) (by omega) hown' hgrow; refine ⟨g', cap', rfl, hv2.cell, hv2.frozen, hk2.from _, ?_, ⟨⟨_, hv3, ?_⟩, ?_⟩, HB2.out.trans hb2⟩
      · exact ((KeepC.of_below (ba _ _)).trans (KeepC.grown hgrow fun b eb => by obtain ⟨q1, q2⟩ := own_notOk HR1.out _ b eb; exact ⟨q1, .inr q2⟩)).set (by omega) (by omega) _
      · rw [HSN.out, hnode, List.length_append, List.map_append]; exact hr2
      · exact ((BM2.out.alloc _).kept hgrow (BM2.out.not_row (by decide) HR1.out)).other (by omega) _)
    have NOT : Hid (nodN B x.info = [] → leftT W0.heap.size (KeepC w.heap.size (w.heap.size + 3)) (fun bef W => (HeldL w.heap.size (w.heap.size + 2) (nmL B (bef.map Nd.info)) W ∧ Boxed W (w.heap.size + 1) 68 (.map mm)) ∧ Below w.heap.size w W) (fun _ _ _ => False) (bef ++ [x]) Wb .normal { tmps := #[], defers := [] } Wb) := Lib.hid (fun hnode => by
      refine ⟨KeepsFrom.refl _ _, KeepC.refl _ _ _, ⟨?_, BM2.out⟩, HB2.out⟩; rw [HSN.out, hnode, List.append_nil]; exact HL2.out)
    have HROW := Lib.hid (hrow1.alloc (.cells #[.string x.nm] 9)); clear hv1 hrow1; cases A
    · have q2 : (x.op == 2) = isVr x.op := (by unfold isVr; rw [Bool.eq_iff_iff]; simp); obtain ⟨V, hV⟩ : ∃ V, isVr x.op = V := ⟨_, rfl⟩; rw [hV] at q2 NE; clear hV; cases V
      · have HN : Hid (nodN B x.info = []) := Lib.hid (by rw [NE.out]; rfl)
        gi_wp2_with (first | (refine ⟨trivial, ?_⟩; gi_at_call 97; refine (AC.out _ _).mono ?_; rintro e w2 ⟨rfl, rfl⟩))
        exact NOT.out HN.out
      · obtain ⟨M, hM⟩ : ∃ M, memB B x.nm = M := ⟨_, rfl⟩; rw [hM] at NE hcz; cases M
        · have hc0 : cntB B x.nm = 0 := hcz.2.2 rfl; rw [hc0] at hlk; have HN : Hid (nodN B x.info = [x.nm]) := Lib.hid (by rw [NE.out]; rfl); clear hcz hM hc0 NE
          gi_wp2_with (first | (refine ⟨trivial, ?_⟩; gi_at_call 97; refine (AC.out _ _).mono ?_; rintro e w2 ⟨rfl, rfl⟩) | (gi_at_builtin; refine wpListIn_append_own _ rfl _ _ 27 rfl w.heap.size 9 i0 (.string ⟨#[]⟩) 1 16 Tryz.underlying27 hi hz0 hz1 hz2 rfl (by decide) _ _ _ rfl HROW.out ⟨Wb.heap.size, 0, none⟩ 1 1 [.string x.nm] rfl rfl (cell_one_new _ _ _) (by simp [Value.oneCell']) (by unfold maxLen; omega) (by omega) (by simp; omega) ?_; intro v' w2 hown' hgrow _; obtain ⟨g', cap', rfl, hc1, hf1, HFIN⟩ := FIN.out HN.out v' w2 hown' hgrow; have HFI := Lib.hid HFIN; clear HFIN hown' hgrow))
          exact HFI.out
        · have hc0 : cntB B x.nm ≠ 0 := (fun h => by have := hcz.2.1 h; cases this); have hc1 : (cntB B x.nm == 0) = false := (by rw [beq_eq_false_iff_ne]; exact hc0); have HN : Hid (nodN B x.info = []) := Lib.hid (by rw [NE.out]; rfl); clear hc0 hcz hM
          gi_wp2_with (first | (refine ⟨trivial, ?_⟩; gi_at_call 97; refine (AC.out _ _).mono ?_; rintro e w2 ⟨rfl, rfl⟩))
          exact NOT.out HN.out
    · have HN : Hid (nodN B x.info = [x.nm]) := Lib.hid (by rw [NE.out]; rfl); clear hcz
      gi_wp2_with (first | (refine ⟨trivial, ?_⟩; gi_at_call 97; refine (AC.out _ _).mono ?_; rintro e w2 ⟨rfl, rfl⟩) | (gi_at_builtin; refine wpListIn_append_own _ rfl _ _ 27 rfl w.heap.size 9 i0 (.string ⟨#[]⟩) 1 16 Tryz.underlying27 hi hz0 hz1 hz2 rfl (by decide) _ _ _ rfl HROW.out ⟨Wb.heap.size, 0, none⟩ 1 1 [.string x.nm] rfl rfl (cell_one_new _ _ _) (by simp [Value.oneCell']) (by unfold maxLen; omega) (by omega) (by simp; omega) ?_; intro v' w2 hown' hgrow _; obtain ⟨g', cap', rfl, hc1, hf1, HFIN⟩ := FIN.out HN.out v' w2 hown' hgrow; have HFI := Lib.hid HFIN; clear HFIN hown' hgrow))
      exact HFI.out
  case done =>
    rintro D zs W hD hzs ⟨⟨hL1, _⟩, hB1⟩ hK; rw [hzs] at hL1; obtain ⟨v, hv, hrow⟩ := hL1.h; have hc := hv.cell; have HR := Lib.hid hrow; have HB := Lib.hid hB1; have HKD := Lib.hid hK; clear hrow hv hzs hB1 hL1
    gi_wp2
    refine ⟨by simp, .inl ⟨_, _, rfl, run_takeDeferred HKD.out, ?_⟩⟩; exact ⟨_, results_tmp rfl _ _ _, v, rfl, by rw [EV.out]; exact ownsRow_putObj HR.out _ HKD.out rfl, HB.out.trans (belowK_b (w := w) (Nat.le_refl _) W D _ _ (by omega) HKD.out rfl rfl)⟩
  case stop =>
    rintro D c bef W _ _ h _; exact h.elim
end Go.Proofs.YtpejflgdehioaaaGreatDoor.ItW
namespace Go.Proofs.YtpejflgdehioaaaGreatDoor.ItW
open Go Go.RowKit Go.Proofs.YtpejflgdehioaaaGreatDoor.NumM Go.Proofs.YtpejflgdehioaaaGreatDoor.LexW Go.Proofs.YtpejflgdehioaaaGreatDoor.LexM Go.Proofs.YtpejflgdehioaaaGreatDoor.ExM Go.Proofs.YtpejflgdehioaaaGreatDoor.ExW Go.Proofs.YtpejflgdehioaaaGreatDoor.ItM
open Go.Proofs.YtpejflgdehioaaaGreatDoor.ClM (Fld firstE firstE_zero)
theorem pre_names {N : Nat} {w : World} (e : Ex) : ∀ (v : Value) (l : Nat), ExAt N w v e → ∀ y ∈ pre l e, y.nm.size ≤ 140737488351232 := by
  induction e using Ex.ind with
  | h o n s ks ih =>
    intro v l h y hy; obtain ⟨p, cap, pl, cl, _, hs, ha⟩ := h.form; rw [pre_mk] at hy; rcases List.mem_cons.1 hy with rfl | hy
    · exact hs
    · obtain ⟨a, hm, hya⟩ := mem_pres.1 hy; obtain ⟨i, hi⟩ := List.getElem?_of_mem hm; exact ih a hm _ _ (ha.hx i a hi) y hya
structure FineI (x : It) : Prop where
  k : kindB x.kd = true
  free : freeB x = true
  d3 : x.kd = 3 → varB x.nm.data.toList = true
  d6 : x.kd = 6 → ∀ s ∈ x.bf ++ x.af, varB s.data.toList = true
  d5 : x.kd = 5 → nameB x.nm = true ∧ nameB x.ix = true
  dE : x.kd ≠ 3 → x.kd ≠ 6 → x.kd ≠ 5 → vld x.e = 0
theorem not_noVar {s : ByteArray} (h : noVar s = false) : varB s.data.toList = true := by unfold noVar at h; simpa using h
theorem fine_of {d : Nat} {x : It} (h : fltI d x = 0) : FineI x := by
  unfold fltI at h; by_cases h1 : (!kindB x.kd || (!freeB x || (decide (4 < d) || (decide (0 < d) && outK x.kd)))) = true
  · rw [if_pos h1] at h; cases h
  · rw [if_neg h1] at h; have h2 : kindB x.kd = true ∧ freeB x = true := by
      cases hk : kindB x.kd <;> cases hf : freeB x <;> simp_all
    refine ⟨h2.1, h2.2, fun e => ?_, fun e => ?_, fun e => ?_, fun n3 n6 n5 => ?_⟩
    · rw [if_pos e] at h; unfold distE at h; split at h
      · cases h
      · split at h
        · cases h
        · split at h
          · cases h
          · rename_i g; exact not_noVar (by simpa using g)
    · rw [if_neg (by omega), if_pos e] at h; unfold solveE at h; split at h
      · cases h
      · split at h
        · cases h
        · rename_i g; intro s hs; refine not_noVar ?_; have g1 : x.bf.any noVar = false ∧ x.af.any noVar = false := by
            cases hb : x.bf.any noVar <;> cases ha : x.af.any noVar <;> simp_all
          rcases List.mem_append.1 hs with hs | hs
          · have := List.any_eq_false.1 g1.1 s hs; simpa using this
          · have := List.any_eq_false.1 g1.2 s hs; simpa using this
    · rw [if_neg (by omega), if_neg (by omega), if_pos e] at h; split at h
      · assumption
      · cases h
    · rw [if_neg n3, if_neg n6, if_neg n5] at h; exact h
def NamesP (l : List ByteArray) (w : World) (e : Ending) (w' : World) : Prop := ∃ v', e = .returned v' ∧ StA w'.heap.size w' v' l ∧ (∀ ad n c, v' = .slice (some ad) n c → w.heap.size ≤ ad.block) ∧ Below w.heap.size w w'
theorem own_fresh {W : World} {B B0 : Nat} {v : Value} {n : Nat} {xs : List Value} (h : W.ownsRow B 9 1 v n xs) (hB : B0 ≤ B) : ∀ ad n c, v = .slice (some ad) n c → B0 ≤ ad.block := fun ad n c e => by
  rcases h.2 with ⟨rfl, _⟩ | ⟨g, cap, cur, rfl, hg, _⟩
  · cases e
  · simp only [Value.slice.injEq, Option.some.injEq] at e; rw [← e.1]; exact Nat.le_trans hB hg
set_option maxRecDepth 100000 in
set_option maxHeartbeats 8000000 in
theorem namesOf_any (mm : Option Nat) (B : List ByteArray) (x : It) (a4 a7 a8 a9 a10 a11 : Value) (N : Nat) (w : World) (hm : BMap w (.map mm) B) (h : IV N w a4 a7 a8 a9 a10 a11 x) (hN : N ≤ w.heap.size) (hnd : Nd1 x) :
    Calls Tryz.prog 37 #[iv x.kd x.e.op x.e.n x.e.nm a4 x.nm x.ix a7 a8 a9 a10 a11, .map mm] w (NamesP (ownN B x) w) := by
  have HS : Hid (∀ s ∈ exN B x.e, s.size ≤ 140737488351232) := Lib.hid (nmL_size (pre_names x.e _ 1 h.ex)); have HLn : Hid ((exN B x.e).length ≤ 10000) := Lib.hid (by have h1 := nmL_len B (pre 1 x.e); rw [pre_len] at h1; have := hnd.1; unfold exN nmL at *; omega); have NC : Hid (∀ W, Below w.heap.size w W → Calls Tryz.prog 67 #[xv x.e.op x.e.n x.e.nm a4, .map mm] W fun r w' => ∃ v', r = .returned v' ∧ w'.ownsRow W.heap.size 9 1 v' (exN B x.e).length ((exN B x.e).map Value.string) ∧ Below W.heap.size W w') := (Lib.hid fun W hW => namesIn_any mm B x.e _ W (hm.below hW) ((h.ex.under (hW.mono hN)).wide (by have := hW.size; omega)) hnd.1); have CC : Hid (∀ W g, Below w.heap.size w W → Blk W g [a10, a11] → Calls Tryz.prog 68 #[.slice (some ⟨g, 0, none⟩) 2 2] W fun e w' => ∃ v, e = .returned v ∧ w'.ownsRow W.heap.size 9 1 v (x.bf ++ x.af).length ((x.bf ++ x.af).map Value.string) ∧ Below W.heap.size W w') := Lib.hid fun W g hW hb =>
    concatS_any x.bf x.af a10 a11 g N W hb (h.bfs.under (hW.mono hN)) (h.afs.under (hW.mono hN)) (by have := hW.size; omega) (by have := hnd.2.2.1; have := hnd.2.2.2; omega)
  have HS2 : Hid (∀ s ∈ x.bf ++ x.af, s.size ≤ 140737488351232) := Lib.hid fun s hs => by
    obtain ⟨_, _, _, _, _, z1, _⟩ := h.bfs; obtain ⟨_, _, _, _, _, z2, _⟩ := h.afs; rcases List.mem_append.1 hs with hs | hs
    · exact z1 s hs
    · exact z2 s hs
  have HL2 : Hid ((x.bf ++ x.af).length ≤ 2000) := Lib.hid (by rw [List.length_append]; have := hnd.2.2.1; have := hnd.2.2.2; omega); have hnms := h.nm; have EO : Hid (ownN B x = if x.kd = 1 ∨ x.kd = 2 ∨ x.kd = 4 then exN B x.e else if x.kd = 3 ∨ x.kd = 5 then [x.nm] else if x.kd = 6 then x.bf ++ x.af else []) := Lib.hid rfl; obtain ⟨kd, o, n, en, p4, k4, c4, nm, ix, p7, k7, c7, p8, k8, c8, p9, k9, c9, p10, k10, c10, p11, k11, c11, ev, hv⟩ := h.open_; have ev2 := ev; simp only [Value.agg.injEq, Array.mk.injEq, List.cons.injEq] at ev2; obtain ⟨-, -, -, -, rfl, -, -, rfl, rfl, rfl, rfl, rfl, -⟩ := ev2; rw [ev]; rw [hv.e5] at hnms; have HNM := Lib.hid hv.e5; have EO2 := EO.out; rw [hv.e0, hv.e5] at EO2; have EO := Lib.hid EO2; have NC2 := NC.out; rw [hv.e1, hv.e2, hv.e3] at NC2; have NC := Lib.hid NC2; clear NC2 EO2; obtain ⟨cs, hcs⟩ : ∃ cs, cs = ics kd o n en (.slice p4 k4 c4) nm ix (.slice p7 k7 c7) (.slice p8 k8 c8) (.slice p9 k9 c9) (.slice p10 k10 c10) (.slice p11 k11 c11) := ⟨_, rfl⟩; have F0 := Blk.new w cs 55; have HB := Lib.hid (ba w (.cells cs.toArray 55)); subst hcs; have d0 := F0.c 0 _ rfl; have d1 := F0.c 1 _ rfl; have d2 := F0.c 2 _ rfl; have d3 := F0.c 3 _ rfl; have d4 := F0.c 4 _ rfl; have d5 := F0.c 5 _ rfl; have d6 := F0.c 6 _ rfl; have d7 := F0.c 7 _ rfl; have d8 := F0.c 8 _ rfl; have d9 := F0.c 9 _ rfl; have d10 := F0.c 10 _ rfl; have d11 := F0.c 11 _ rfl; have HF := Lib.hid F0; clear F0 hv h ev hm hN; by_cases hE : kd = 1 ∨ kd = 2 ∨ kd = 4
  · have E : Hid (ownN B x = exN B x.e) := Lib.hid (by rw [EO.out, if_pos hE]); rcases hE with rfl | rfl | rfl
    all_goals
      go_enter Tryz.func37, Tryz.ntmps37
      go_wp2_with (go_at_call 67; ((with_reducible refine (NC.out _ HB.out).mono ?_); rintro e w1 ⟨v', rfl, ho, hb⟩; have HO := Lib.hid ho; have HB1 := Lib.hid (HB.out.then_ hb); clear ho hb))
      go_ret; exact ⟨_, rfl, by rw [E.out]; exact own_StA HO.out (by have := HLn.out; omega) HS.out, own_fresh HO.out HB.out.size, HB1.out⟩
  · have q1 : (kd == 1) = false := (by rw [beq_eq_false_iff_ne]; omega); have q2 : (kd == 2) = false := (by rw [beq_eq_false_iff_ne]; omega); have q4 : (kd == 4) = false := (by rw [beq_eq_false_iff_ne]; omega); by_cases hN : kd = 3 ∨ kd = 5
    · have E : Hid (ownN B x = [nm]) := Lib.hid (by rw [EO.out, if_neg hE, if_pos hN]); clear hE; have FS : Hid (∀ (W : World) (g : Nat), g = W.heap.size → StA (W.alloc (.cells #[.string nm] 9)).heap.size (W.alloc (.cells #[.string nm] 9)) (.slice (some ⟨g, 0, none⟩) 1 1) [nm]) := Lib.hid fun W g hg => by
        subst hg; exact ⟨some ⟨W.heap.size, 0, none⟩, 1, rfl, by simp, Nat.le_refl _, fun s hs => by rw [List.mem_singleton] at hs; rw [hs]; exact hnms, fun _ => ⟨W.heap.size, 0, rfl, by simp, fun i s hi => by
        have hi0 : i = 0 := (by have := (List.getElem?_eq_some_iff.1 hi).1; simp at this; exact this); subst hi0; have : nm = s := (by simpa using hi); rw [← this]; exact (Blk.new W [.string nm] 9).c 0 _ rfl⟩⟩
      rcases hN with rfl | rfl
      all_goals
        go_enter Tryz.func37, Tryz.ntmps37
        go_wp2; go_ret; refine ⟨.slice (some ⟨w.heap.size + 1, 0, none⟩) 1 1, rfl, ?_, fun ad n c e => by (simp only [Value.slice.injEq, Option.some.injEq] at e; rw [← e.1]; exact Nat.le_succ _), HB.out.then_ (ba _ _)⟩; rw [E.out]; exact FS.out _ _ (by simp)
    · have q3 : (kd == 3) = false := (by rw [beq_eq_false_iff_ne]; omega); have q5 : (kd == 5) = false := (by rw [beq_eq_false_iff_ne]; omega); by_cases h6 : kd = 6
      · subst h6; have E : Hid (ownN B x = x.bf ++ x.af) := Lib.hid (by rw [EO.out]; rfl); clear hE hN q1 q2 q3 q4 q5; have bf := (Blk.new (w.alloc (.cells (ics 6 o n en (.slice p4 k4 c4) nm ix (.slice p7 k7 c7) (.slice p8 k8 c8) (.slice p9 k9 c9) (.slice p10 k10 c10) (.slice p11 k11 c11)).toArray 55)) [.slice p10 k10 c10, .slice p11 k11 c11] 27); rw [World.size_alloc] at bf; have BF := Lib.hid bf; clear bf
        go_enter Tryz.func37, Tryz.ntmps37
        go_wp2_with (go_at_call 68; ((with_reducible refine (CC.out _ _ (HB.out.then_ (ba _ _)) BF.out).mono ?_); rintro e w1 ⟨v', rfl, ho, hb⟩; have HO := Lib.hid ho; have HB1 := Lib.hid ((HB.out.then_ (ba _ _)).then_ hb); clear ho hb))
        go_ret; exact ⟨_, rfl, by rw [E.out]; exact own_StA HO.out (by have := HL2.out; omega) HS2.out, own_fresh HO.out (by have := (HB.out.then_ (ba _ (.cells #[.slice p10 k10 c10, .slice p11 k11 c11] 27))).size; exact this), HB1.out⟩
      · have E : Hid (ownN B x = []) := Lib.hid (by rw [EO.out, if_neg hE, if_neg hN, if_neg h6]); have q6 : (kd == 6) = false := (by rw [beq_eq_false_iff_ne]; exact h6); clear hE hN h6
        go_enter Tryz.func37, Tryz.ntmps37
        go_wp2; go_ret; exact ⟨_, rfl, by rw [E.out]; exact StA.nil _ _ _ _, fun ad n c e => by (have e2 : Value.slice none 0 0 = .slice (some ad) n c := e; cases e2), HB.out⟩
set_option maxRecDepth 100000 in
set_option maxHeartbeats 8000000 in
theorem checkEach_any (fb : Nat) (fs : List Fld) (mm : Option Nat) (B : List ByteArray) (x : It) (a4 a7 a8 a9 a10 a11 : Value) (N : Nat) (w : World) (hf : FsA w fb fs) (hm : BMap w (.map mm) B) (h : IV N w a4 a7 a8 a9 a10 a11 x) (hk : x.kd = 5) :
    Calls Tryz.prog 84 #[.map (some fb), iv x.kd x.e.op x.e.n x.e.nm a4 x.nm x.ix a7 a8 a9 a10 a11, .map mm] w (tInt (chkI fs B x) w) := by
  have EO : Hid (chkI fs B x = if arrE fs x.nm = 0 then (if ((szO fs x.ix).isSome || memB B x.ix) = true then 8 else 0) else arrE fs x.nm) := Lib.hid (by unfold chkI; rw [if_neg (by omega), if_neg (by omega), if_pos hk]); have AC : Hid (∀ W, Below w.heap.size w W → Calls Tryz.prog 98 #[.map (some fb), .string x.nm] W fun e w' => e = .returned (.int .i64 (arrE fs x.nm)) ∧ W = w') := (Lib.hid fun W hW => arrE_any fb fs x.nm W (hf.later hW) h.nm); have hl1 := (fun W hW => (hf.later (w' := W) hW).lookOk x.ix h.ix); have hl2 := (fun W hW => (hm.below (W' := W) hW).look x.ix h.ix); have hcz := cntB_pos B x.ix; obtain ⟨kd, o, n, en, p4, k4, c4, nm, ix, p7, k7, c7, p8, k8, c8, p9, k9, c9, p10, k10, c10, p11, k11, c11, ev, hv⟩ := h.open_; have ev2 := ev; simp only [Value.agg.injEq, Array.mk.injEq, List.cons.injEq] at ev2; obtain ⟨-, -, -, -, rfl, -, -, rfl, rfl, rfl, rfl, rfl, -⟩ := ev2; rw [ev]; rw [hv.e6] at hl1 hl2 hcz; have EO2 := EO.out; rw [hv.e6, hv.e5] at EO2; have AC2 := AC.out; rw [hv.e5] at AC2; have EO := Lib.hid EO2; have AC := Lib.hid AC2; clear EO2 AC2; obtain ⟨cs, hcs⟩ : ∃ cs, cs = ics kd o n en (.slice p4 k4 c4) nm ix (.slice p7 k7 c7) (.slice p8 k8 c8) (.slice p9 k9 c9) (.slice p10 k10 c10) (.slice p11 k11 c11) := ⟨_, rfl⟩; have F0 := Blk.new w cs 55; have HB := Lib.hid (ba w (.cells cs.toArray 55)); have hlk1 := hl1 _ HB.out; have hlk2 := hl2 _ HB.out; subst hcs; have d0 := F0.c 0 _ rfl; have d1 := F0.c 1 _ rfl; have d2 := F0.c 2 _ rfl; have d3 := F0.c 3 _ rfl; have d4 := F0.c 4 _ rfl; have d5 := F0.c 5 _ rfl; have d6 := F0.c 6 _ rfl; have d7 := F0.c 7 _ rfl; have d8 := F0.c 8 _ rfl; have d9 := F0.c 9 _ rfl; have d10 := F0.c 10 _ rfl; have d11 := F0.c 11 _ rfl; clear F0 hv h ev hm hf hl1 hl2; obtain ⟨z, hz⟩ : ∃ z, szI fs ix = z := ⟨_, rfl⟩; rw [hz] at hlk1; clear hz; generalize arrE fs nm = r at *
  generalize (szO fs ix).isSome = s at *
  by_cases hr : r = 0
  · subst hr; have EO2 : Hid (chkI fs B x = if (s || memB B ix) = true then 8 else 0) := Lib.hid (by rw [EO.out, if_pos rfl]); clear EO; obtain ⟨M, hM⟩ : ∃ M, memB B ix = M := ⟨_, rfl⟩; rw [hM] at EO2 hcz; clear hM; cases M
    · have hc0 : cntB B ix = 0 := hcz.2.2 rfl; rw [hc0] at hlk2; clear hcz hc0; cases s
      all_goals
        go_enter Tryz.func84, Tryz.ntmps84
        go_wp2_with (go_at_call 98; ((with_reducible refine (AC.out _ HB.out).mono ?_); rintro e w1 ⟨rfl, rfl⟩))
        go_ret; exact ExW.tInt_mk (by rw [EO2.out]; rfl) HB.out
    · have hc0 : 0 < cntB B ix := by
        have : cntB B ix ≠ 0 := (fun h => by have := hcz.2.1 h; cases this); have := hcz.1; omega
      clear hcz; cases s
      all_goals
        go_enter Tryz.func84, Tryz.ntmps84
        go_wp2_with (go_at_call 98; ((with_reducible refine (AC.out _ HB.out).mono ?_); rintro e w1 ⟨rfl, rfl⟩))
        go_ret; exact ExW.tInt_mk (by rw [EO2.out]; rfl) HB.out
  · have EO2 : Hid (r = chkI fs B x) := Lib.hid (by rw [EO.out, if_neg hr]); have q : (r != 0) = true := (by simpa using hr); clear EO hr hcz
    go_enter Tryz.func84, Tryz.ntmps84
    go_wp2_with (go_at_call 98; ((with_reducible refine (AC.out _ HB.out).mono ?_); rintro e w1 ⟨rfl, rfl⟩))
    go_ret; exact ExW.tInt_mk EO2.out HB.out
set_option maxRecDepth 100000 in
set_option maxHeartbeats 8000000 in
theorem check_any (fb : Nat) (fs : List Fld) (mm : Option Nat) (B : List ByteArray) (x : It) (a4 a7 a8 a9 a10 a11 : Value) (N : Nat) (w : World) (hf : FsA w fb fs) (hm : BMap w (.map mm) B) (h : IV N w a4 a7 a8 a9 a10 a11 x) (hN : N ≤ w.heap.size) (hnd : Nd1 x) (hfine : FineI x) :
    Calls Tryz.prog 44 #[.map (some fb), iv x.kd x.e.op x.e.n x.e.nm a4 x.nm x.ix a7 a8 a9 a10 a11, .map mm] w (tInt (chkI fs B x) w) := by
  have KK : x.kd = 3 ∨ x.kd = 6 ∨ x.kd = 5 ∨ (x.kd ≠ 3 ∧ x.kd ≠ 6 ∧ x.kd ≠ 5) := (by omega); have NC0 : ∀ W, Below w.heap.size w W → Calls Tryz.prog 37 #[iv x.kd x.e.op x.e.n x.e.nm a4 x.nm x.ix a7 a8 a9 a10 a11, .map mm] W (NamesP (ownN B x) W) := (fun W hW => namesOf_any mm B x _ _ _ _ _ _ N W (hm.below hW) (h.under (hW.mono hN)) (by have := hW.size; omega) hnd); have EC0 : x.kd = 5 → ∀ W, Below w.heap.size w W → Calls Tryz.prog 84 #[.map (some fb), iv x.kd x.e.op x.e.n x.e.nm a4 x.nm x.ix a7 a8 a9 a10 a11, .map mm] W (tInt (chkI fs B x) W) := (fun hk W hW => checkEach_any fb fs mm B x _ _ _ _ _ _ N W (hf.later hW) (hm.below hW) (h.under (hW.mono hN)) hk); have XC0 : x.kd ≠ 3 → x.kd ≠ 6 → x.kd ≠ 5 → ∀ W, Below w.heap.size w W → Calls Tryz.prog 56 #[.map (some fb), xv x.e.op x.e.n x.e.nm a4, .map mm] W (tInt (exE fs B x.e) W) := (fun n3 n6 n5 W hW => checkExpr_any fb fs (.map mm) B x.e _ W (hf.later hW) (hm.below hW) ⟨mm, rfl⟩ ((h.ex.under (hW.mono hN)).wide (by have := hW.size; omega)) hnd.1 ((ok_at x.e 1).1 ((vld_zero x.e).1 (hfine.dE n3 n6 n5)).1)); have UC0 : (∀ s ∈ ownN B x, varB s.data.toList = true) → ∀ W v, Below w.heap.size w W → StA W.heap.size W v (ownN B x) → Calls Tryz.prog 82 #[v, .func (.func 83) #[.map (some fb)] #[]] W (tBool ((ownN B x).any (unkB fs)) W) := fun hq W v hW hv =>
    unk_has (ownN B x) (unkB fs) v W.heap.size W hv (Nat.le_refl _) fb (fun s hs W' hW' hsz => unk_any fb fs s W' ((hf.later hW).later hW') hsz (hq s hs))
  have O3 : x.kd = 3 → ownN B x = [x.nm] := (fun hk => by unfold ownN; rw [if_neg (by omega), if_pos (.inl hk)]); have O6 : x.kd = 6 → ownN B x = x.bf ++ x.af := (fun hk => by unfold ownN; rw [if_neg (by omega), if_neg (by omega), if_pos hk]); have C36 : x.kd = 3 ∨ x.kd = 6 → (∀ s ∈ ownN B x, varB s.data.toList = true) ∧ chkI fs B x = if (ownN B x).any (unkB fs) = true then 7 else 0 := by
    rintro (hk | hk)
    · rw [O3 hk]; refine ⟨fun s hs => by rw [List.mem_singleton] at hs; rw [hs]; exact hfine.d3 hk, ?_⟩; unfold chkI; rw [if_pos hk]; simp
    · rw [O6 hk]; refine ⟨hfine.d6 hk, ?_⟩; unfold chkI; rw [if_neg (by omega), if_pos hk]
  have CX : x.kd ≠ 3 → x.kd ≠ 6 → x.kd ≠ 5 → chkI fs B x = exE fs B x.e := (fun n3 n6 n5 => by unfold chkI; rw [if_neg n3, if_neg n6, if_neg n5]); obtain ⟨kd, o, n, en, p4, k4, c4, nm, ix, p7, k7, c7, p8, k8, c8, p9, k9, c9, p10, k10, c10, p11, k11, c11, ev, hv⟩ := h.open_; have ev2 := ev; simp only [Value.agg.injEq, Array.mk.injEq, List.cons.injEq] at ev2; obtain ⟨-, -, -, -, rfl, -, -, rfl, rfl, rfl, rfl, rfl, -⟩ := ev2; rw [ev] at NC0 EC0 ⊢; rw [hv.e0] at KK EC0 XC0 C36 CX; rw [hv.e1, hv.e2, hv.e3] at XC0; obtain ⟨cs, hcs⟩ : ∃ cs, cs = ics kd o n en (.slice p4 k4 c4) nm ix (.slice p7 k7 c7) (.slice p8 k8 c8) (.slice p9 k9 c9) (.slice p10 k10 c10) (.slice p11 k11 c11) := ⟨_, rfl⟩; have F0 := Blk.new w cs 55; have HB := Lib.hid (ba w (.cells cs.toArray 55)); subst hcs; have d0 := F0.c 0 _ rfl; have d1 := F0.c 1 _ rfl; have d2 := F0.c 2 _ rfl; have d3 := F0.c 3 _ rfl; have d4 := F0.c 4 _ rfl; have d5 := F0.c 5 _ rfl; have d6 := F0.c 6 _ rfl; have d7 := F0.c 7 _ rfl; have d8 := F0.c 8 _ rfl; have d9 := F0.c 9 _ rfl; have d10 := F0.c 10 _ rfl; have d11 := F0.c 11 _ rfl; clear F0 hv h ev hm hf hN hnd hfine O3 O6; rcases KK with rfl | rfl | rfl | ⟨n3, n6, n5⟩
  · obtain ⟨c1, c2⟩ := C36 (.inl rfl); have UC := Lib.hid (UC0 c1); have NC := Lib.hid NC0; have E := Lib.hid c2; clear c1 c2 C36 UC0 NC0 EC0 XC0 CX; generalize (ownN B x).any (unkB fs) = u at *
    cases u
    all_goals
      go_enter Tryz.func44, Tryz.ntmps44
      go_wp2_with (first
        | (go_at_call 37; ((with_reducible refine (NC.out _ HB.out).mono ?_); rintro e w1 ⟨v', rfl, hst, _, hb⟩; have HST := Lib.hid hst; have HB1 := Lib.hid (HB.out.then_ hb); clear hst hb))
        | (go_at_call 82; ((with_reducible refine (UC.out _ _ HB1.out HST.out).mono ?_); rintro e w2 ⟨rfl, hb⟩; have HB2 := Lib.hid (HB1.out.then_ hb); clear hb)))
      go_ret; exact ExW.tInt_mk (by rw [E.out]; rfl) HB2.out
  · obtain ⟨c1, c2⟩ := C36 (.inr rfl); have UC := Lib.hid (UC0 c1); have NC := Lib.hid NC0; have E := Lib.hid c2; clear c1 c2 C36 UC0 NC0 EC0 XC0 CX; generalize (ownN B x).any (unkB fs) = u at *
    cases u
    all_goals
      go_enter Tryz.func44, Tryz.ntmps44
      go_wp2_with (first
        | (go_at_call 37; ((with_reducible refine (NC.out _ HB.out).mono ?_); rintro e w1 ⟨v', rfl, hst, _, hb⟩; have HST := Lib.hid hst; have HB1 := Lib.hid (HB.out.then_ hb); clear hst hb))
        | (go_at_call 82; ((with_reducible refine (UC.out _ _ HB1.out HST.out).mono ?_); rintro e w2 ⟨rfl, hb⟩; have HB2 := Lib.hid (HB1.out.then_ hb); clear hb)))
      go_ret; exact ExW.tInt_mk (by rw [E.out]; rfl) HB2.out
  · have EC := Lib.hid (EC0 rfl); clear C36 UC0 NC0 EC0 XC0 CX
    go_enter Tryz.func44, Tryz.ntmps44
    go_wp2_with (go_at_call 84; ((with_reducible refine (EC.out _ HB.out).mono ?_); rintro e w1 ⟨rfl, hb⟩; have HB1 := Lib.hid (HB.out.then_ hb); clear hb))
    go_ret; exact ⟨rfl, HB1.out⟩
  · have XC := Lib.hid (XC0 n3 n6 n5); have E := Lib.hid (CX n3 n6 n5); have f3 : (kd == 3) = false := (by rw [beq_eq_false_iff_ne]; exact n3); have f6 : (kd == 6) = false := (by rw [beq_eq_false_iff_ne]; exact n6); have f5 : (kd == 5) = false := (by rw [beq_eq_false_iff_ne]; exact n5); clear C36 UC0 NC0 EC0 XC0 CX n3 n6 n5
    go_enter Tryz.func44, Tryz.ntmps44
    go_wp2_with (go_at_call 56; ((with_reducible refine (XC.out _ HB.out).mono ?_); rintro e w1 ⟨rfl, hb⟩; have HB1 := Lib.hid (HB.out.then_ hb); clear hb))
    go_ret; exact ExW.tInt_mk E.out.symm HB1.out
end Go.Proofs.YtpejflgdehioaaaGreatDoor.ItW
namespace Go.Proofs.YtpejflgdehioaaaGreatDoor.ItW
open Go Go.RowKit Go.Shelf Go.Proofs.YtpejflgdehioaaaGreatDoor.LexW Go.Proofs.YtpejflgdehioaaaGreatDoor.LexM Go.Proofs.YtpejflgdehioaaaGreatDoor.ExM Go.Proofs.YtpejflgdehioaaaGreatDoor.ExW Go.Proofs.YtpejflgdehioaaaGreatDoor.ItM
open Go.Proofs.YtpejflgdehioaaaGreatDoor.ClM (Fld firstE firstE_zero)
attribute [local go_sem] Oper.semAt_some
def SetM (W : World) (mb : Nat) (l : List ByteArray) : Prop := W.ownsMap Tryz.prog 9 (plainElem (H := Unit) Tryz.prog 4) mb l.length (nmD l)
theorem SetM.obj {W : World} {mb : Nat} {l : List ByteArray} (h : SetM W mb l) : ∃ es ck, W.heap[mb]? = some (.map es ck) := by
  obtain ⟨es, ck, hb, _⟩ := h; exact ⟨es, ck, hb⟩
theorem SetM.lt {W : World} {mb : Nat} {l : List ByteArray} (h : SetM W mb l) : mb < W.heap.size := by
  obtain ⟨es, ck, hb⟩ := h.obj; exact (Array.getElem?_eq_some_iff.1 hb).1
structure HeldG (B lb X Y : Nat) (l : List ByteArray) (W : World) : Prop where
  h : ∃ v, Boxed W lb 27 v ∧ W.ownsRow B 9 1 v l.length (l.map Value.string) ∧ ∀ b, v.ownBlock = some b → b < X ∨ Y ≤ b
theorem HeldG.plain {B lb X Y : Nat} {l : List ByteArray} {W : World} (h : HeldG B lb X Y l W) : HeldL B lb l W := by
  obtain ⟨v, h1, h2, _⟩ := h.h; exact ⟨v, h1, h2⟩
structure Kept5 (B X Y n₁ B0 : Nat) (A W : World) : Prop where
  kc : KeepC B n₁ A W
  kf : KeepsFrom B0 A W
  be : Below B A W
  nb : ∀ b, X ≤ b → b < Y → W.heap[b]? = A.heap[b]?
theorem Kept5.refl (B X Y n₁ B0 : Nat) (A : World) : Kept5 B X Y n₁ B0 A A := ⟨KeepC.refl _ _ _, KeepsFrom.refl _ _, Below.refl _ _, fun _ _ _ => rfl⟩
theorem Kept5.trans {B X Y n₁ B0 : Nat} {A W W' : World} (h : Kept5 B X Y n₁ B0 A W) (k : Kept5 B X Y n₁ B0 W W') : Kept5 B X Y n₁ B0 A W' := ⟨h.kc.trans k.kc, h.kf.trans k.kf, h.be.trans k.be, fun b h1 h2 => (k.nb b h1 h2).trans (h.nb b h1 h2)⟩
end Go.Proofs.YtpejflgdehioaaaGreatDoor.ItW
namespace Go.Proofs.YtpejflgdehioaaaGreatDoor.ItW
open Go Go.RowKit Go.Proofs.YtpejflgdehioaaaGreatDoor.NumM Go.Proofs.YtpejflgdehioaaaGreatDoor.LexW Go.Proofs.YtpejflgdehioaaaGreatDoor.LexM Go.Proofs.YtpejflgdehioaaaGreatDoor.ExM Go.Proofs.YtpejflgdehioaaaGreatDoor.ExW Go.Proofs.YtpejflgdehioaaaGreatDoor.ItM
open Go.Proofs.YtpejflgdehioaaaGreatDoor.ClM (firstE firstE_zero)
def vlL (d : Nat) (l : List It) : Int := firstE ((wks d [] l).map fltP)
theorem flt_map (l : List It) : ∀ d B, (wks d B l).map fltP = (wks d [] l).map fltP := by
  induction l using its_rec with
  | h0 => intro d B; rw [wks_nil, wks_nil]
  | h1 x r h1 h2 h3 =>
    intro d B; rw [wks_cons, wks_cons, wk_eq, wk_eq]; simp only [List.map_append, List.map_cons]; rw [h1 (d + 1) (inn x.kd x.ix B), h1 (d + 1) (inn x.kd x.ix []), h2 (d + 1) B, h3 d B]; rfl
theorem vl_nil (d : Nat) : vlL d [] = 0 := by unfold vlL; rw [wks_nil]; rfl
theorem vl_cons (d : Nat) (a : It) (r : List It) : vlL d (a :: r) = if fltI d a = 0 then (if vlL (d + 1) a.it = 0 then (if vlL (d + 1) a.el = 0 then vlL d r else vlL (d + 1) a.el) else vlL (d + 1) a.it) else fltI d a := by
  unfold vlL; rw [wks_cons, wk_eq, List.map_append, List.map_cons, List.map_append, List.cons_append, firstE_cons, firstE_append, firstE_append, flt_map a.it (d + 1) (inn a.kd a.ix [])]; show (if fltI d a = 0 then _ else fltI d a) = _; by_cases h1 : fltI d a = 0
  · rw [if_pos h1, if_pos h1]; by_cases h2 : firstE ((wks (d + 1) [] a.it).map fltP) = 0
    · simp only [h2, if_true]
    · simp only [h2, if_false]
  · rw [if_neg h1, if_neg h1]
end Go.Proofs.YtpejflgdehioaaaGreatDoor.ItW
namespace Go.Proofs.YtpejflgdehioaaaGreatDoor.ItM
open Go Go.Proofs.YtpejflgdehioaaaGreatDoor.WordM Go.Proofs.YtpejflgdehioaaaGreatDoor.LexM Go.Proofs.YtpejflgdehioaaaGreatDoor.ExM
open Go.Proofs.YtpejflgdehioaaaGreatDoor.ClM (Fld)
def GE (fs : List Fld) (e : Ex) : Prop := ∃ l, ∀ y ∈ pre l e, fltS y = 0 ∧ nodE fs [] y = 0
theorem GE.kid {fs : List Fld} {o n : Int} {s : ByteArray} {ks : List Ex} (h : GE fs (.mk o n s ks)) {a : Ex} (ha : a ∈ ks) : GE fs a := by
  obtain ⟨l, h⟩ := h; exact ⟨l + 1, fun y hy => h y (by rw [pre_mk]; exact List.mem_cons_of_mem _ (mem_pres.2 ⟨a, ha, hy⟩))⟩
theorem GE.top {fs : List Fld} {o n : Int} {s : ByteArray} {ks : List Ex} (h : GE fs (.mk o n s ks)) : fltS ⟨0, o, n, s, ks.length⟩ = 0 ∧ nodE fs [] ⟨0, o, n, s, ks.length⟩ = 0 := by
  obtain ⟨l, h⟩ := h; exact h ⟨l, o, n, s, ks.length⟩ (by rw [pre_mk]; simp)
theorem flt_facts {l : Nat} {o n : Int} {s : ByteArray} {k : Nat} (h : fltS ⟨l, o, n, s, k⟩ = 0) : takesS o k = true ∧ 0 ≤ n ∧ (isAr o = true → nmB s.data.toList = true) := by
  unfold fltS at h; cases hA : badA ⟨l, o, n, s, k⟩ with
  | true => rw [hA, if_pos rfl] at h; cases h
  | false =>
    rw [hA, if_neg (by decide)] at h; cases hB : badN ⟨l, o, n, s, k⟩ with
    | true => rw [hB, if_pos rfl] at h; cases h
    | false =>
      simp only [badA, Bool.or_eq_false_iff, Bool.not_eq_false', decide_eq_false_iff_not] at hA; simp only [badN, Bool.or_eq_false_iff, Bool.and_eq_false_iff, Bool.not_eq_false'] at hB; refine ⟨hA.1, by omega, fun ha => ?_⟩; rcases hB.2 with e | e
      · rw [ha] at e; cases e
      · exact e
theorem takes3 {k : Nat} (h : takesS 3 k = true) : k = 1 := by simp [takesS, arS] at h; omega
theorem takes24 {k : Nat} (h : takesS 24 k = true) : k = 0 := by simp [takesS, arS] at h; omega
theorem nm_len {s : ByteArray} (h : nmB s.data.toList = true) : s.size ≤ 16 := by
  have e : s.size = s.data.toList.length := rfl; rw [e]; generalize s.data.toList = l at *
  cases l with
  | nil => simp
  | cons c r =>
    unfold nmB at h; simp only [Bool.and_eq_true, decide_eq_true_eq] at h
    simpa using h.1
theorem GE.arr {fs : List Fld} {o n : Int} {s : ByteArray} {ks : List Ex} (h : GE fs (.mk o n s ks)) (ha : isAr o = true) : s.size ≤ 16 ∧ 0 < szI fs s := by
  obtain ⟨h1, h2⟩ := h.top; refine ⟨nm_len ((flt_facts h1).2.2 ha), ?_⟩; unfold nodE at h2; rw [if_pos ha] at h2; unfold arrE at h2; split at h2
  · cases h2
  · split at h2
    · rename_i hh; exact of_decide_eq_true hh
    · cases h2
theorem sz_cst (k : Int) : sz (cst k) = 1 := by unfold cst; rw [sz_mk, szs_nil]
theorem sz_elV (a : ByteArray) (k : Nat) : sz (elV a k) = 1 := by unfold elV; rw [sz_mk, szs_nil]
theorem sz_sumE (a : ByteArray) : ∀ k, sz (sumE a k) = 2 * k + 1
  | 0 => sz_elV a 0
  | k + 1 => by
    show sz (.mk 7 0 ⟨#[]⟩ [sumE a k, elV a (k + 1)]) = _; rw [sz_mk, szs_cons, szs_cons, szs_nil, sz_sumE a k, sz_elV]; omega
theorem sz_choE (a : ByteArray) (i : Ex) : ∀ m k, sz (choE a i k m) = m * (sz i + 4) + 1
  | 0, k => by show sz (cst 0) = _; rw [sz_cst]; omega
  | m + 1, k => by
    show sz (.mk 22 0 ⟨#[]⟩ [.mk 15 0 ⟨#[]⟩ [i, cst k], elV a k, choE a i (k + 1) m]) = _; rw [sz_mk, szs_cons, szs_cons, szs_cons, szs_nil, sz_mk, szs_cons, szs_cons, szs_nil, sz_cst, sz_elV, sz_choE a i m (k + 1), Nat.succ_mul]; omega
theorem sz_pos (e : Ex) : 1 ≤ sz e := by cases e; rw [sz_mk]; omega
theorem sz_elmE (a : ByteArray) (n : Nat) (hn : n ≤ 8) (i : Ex) : sz (elmE a n i) ≤ 8 * (sz i + 4) + 1 := by
  have := sz_pos i; unfold elmE; split
  · split
    · rw [sz_elV]; omega
    · rw [sz_cst]; omega
  · rw [sz_choE]; have : n * (sz i + 4) ≤ 8 * (sz i + 4) := Nat.mul_le_mul_right _ hn; omega
theorem szI_le (fs : List Fld) (hS : ∀ f ∈ fs, 0 ≤ f.sz ∧ f.sz ≤ 8) (s : ByteArray) : 0 ≤ szI fs s ∧ szI fs s ≤ 8 := by
  unfold szI szO; cases h : fs.find? (fun f => ClM.same f.nm s) with
  | none => exact ⟨by decide, by decide⟩
  | some f => exact hS f (List.mem_of_find?_eq_some h)
theorem leaf_sz {fs : List Fld} (hS : ∀ f ∈ fs, 0 ≤ f.sz ∧ f.sz ≤ 8) {e : Ex} (hg : GE fs e) (h1 : sz e = 1) : sz (scM fs e) ≤ 15 := by
  obtain ⟨o, n, s, ks⟩ := e; rw [sz_mk] at h1; have hk : ks = [] := by
    cases ks with
    | nil => rfl
    | cons a r => rw [szs_cons] at h1; have := sz_pos a; omega
  subst hk; rw [scM_mk]; have h8 := szI_le fs hS s; split
  · rw [sz_sumE]; omega
  · split
    · rename_i h3; subst h3; have := takes3 (flt_facts hg.top.1).1; simp at this
    · rw [sz_mk]; simp [szs_nil]
theorem szs_map_le {f : Ex → Ex} {c : Nat} : ∀ (ks : List Ex), (∀ a ∈ ks, sz (f a) ≤ c * sz a) → szs (ks.map f) ≤ c * szs ks
  | [], _ => by simp [szs_nil]
  | a :: r, h => by
    rw [List.map_cons, szs_cons, szs_cons, Nat.mul_add]; have h1 := h a (by simp); have h2 := szs_map_le r (fun b hb => h b (by simp [hb])); omega
theorem scM_sz {fs : List Fld} (hS : ∀ f ∈ fs, 0 ≤ f.sz ∧ f.sz ≤ 8) {e : Ex} (hg : GE fs e) (hb : scB fs e = true) : sz (scM fs e) ≤ 160 * sz e ∧ sz (scM fs e) ≤ 400 := by
  obtain ⟨o, n, s, ks⟩ := e; have hb2 := hb; rw [scB_mk, Bool.and_eq_true] at hb2; have hv := ((vld_zero _).1 (of_decide_eq_true hb2.2)).2.2; refine ⟨?_, hv⟩; by_cases h3 : 3 ≤ sz (.mk o n s ks)
  · omega
  · rw [sz_mk] at h3; cases ks with
    | nil => have := leaf_sz hS hg (by rw [sz_mk, szs_nil]); rw [sz_mk]; omega
    | cons a r =>
      rw [szs_cons] at h3; have ha := sz_pos a; have hr : r = [] := by
        cases r with
        | nil => rfl
        | cons b q => rw [szs_cons] at h3; have := sz_pos b; omega
      subst hr; rw [szs_nil] at h3; have hl := leaf_sz hS (hg.kid (a := a) (by simp)) (by omega); rw [scM_mk, sz_mk, szs_cons, szs_nil]; have h8 := szI_le fs hS s; split
      · rw [sz_sumE]; omega
      · split
        · have := sz_elmE s (szI fs s).toNat (by omega) (hdE ([a].map (scM fs))); have e : hdE ([a].map (scM fs)) = scM fs a := rfl; rw [e] at this ⊢; omega
        · rw [sz_mk, List.map_cons, List.map_nil, szs_cons, szs_nil]; omega
theorem scM_top {fs : List Fld} (hS : ∀ f ∈ fs, 0 ≤ f.sz ∧ f.sz ≤ 8) {o n : Int} {s : ByteArray} {ks : List Ex} (hg : GE fs (.mk o n s ks)) (hb : ∀ a ∈ ks, scB fs a = true) (h60 : sz (.mk o n s ks) ≤ 60) : sz (scM fs (.mk o n s ks)) ≤ 10000 := by
  have h8 := szI_le fs hS s; rw [sz_mk] at h60; rw [scM_mk]; split
  · rw [sz_sumE]; omega
  · split
    · have h1 := sz_elmE s (szI fs s).toNat (by omega) (hdE (ks.map (scM fs))); have h2 : sz (hdE (ks.map (scM fs))) ≤ 400 := by
        cases ks with
        | nil => show sz zE ≤ 400; unfold zE; rw [sz_mk, szs_nil]; omega
        | cons a r => exact (scM_sz hS (hg.kid (a := a) (by simp)) (hb a (by simp))).2
      omega
    · rw [sz_mk]; have := szs_map_le (f := scM fs) (c := 160) ks (fun a ha => (scM_sz hS (hg.kid ha) (hb a ha)).1); omega
def scR (fs : List Fld) (e : Ex) : Ex × Int := if scB fs e = true then (scM fs e, 0) else (zE, 2)
end Go.Proofs.YtpejflgdehioaaaGreatDoor.ItM
namespace Go.Proofs.YtpejflgdehioaaaGreatDoor.ItW
open Go Go.RowKit Go.Shelf Go.Proofs.YtpejflgdehioaaaGreatDoor.NumM Go.Proofs.YtpejflgdehioaaaGreatDoor.LexW Go.Proofs.YtpejflgdehioaaaGreatDoor.LexM Go.Proofs.YtpejflgdehioaaaGreatDoor.ExM Go.Proofs.YtpejflgdehioaaaGreatDoor.ExW Go.Proofs.YtpejflgdehioaaaGreatDoor.ItM
open Go.Proofs.YtpejflgdehioaaaGreatDoor.ClM (Fld)
theorem elm_sz (a : ByteArray) (k : Nat) (ha : a.size ≤ 100) : (elmN a k).size ≤ 103 := by
  have h : (elmN a k).size = a.size + 3 := by
    show ((a.data.toList ++ [91, UInt8.ofNat (48 + k), 93]).toArray).size = a.size + 3; simp
  omega
set_option maxRecDepth 100000 in
set_option maxHeartbeats 4000000 in
theorem variable_any (a : ByteArray) (k : Nat) (hk : k < 10) (ha : a.size ≤ 100) (w : World) :
    Calls Tryz.prog 150 #[.string a, .int .i64 k] w fun e w' => e = .returned (xv 2 0 (elmN a k) (.slice none 0 0)) ∧ Below w.heap.size w w' := by
  have IC := (fun W => Tryz.strconv_Itoa_small k (by omega) W); rw [Lib.decDigits_one hk] at IC; have HC := Lib.hid (elm_cat a ⟨#[UInt8.ofNat (48 + k)]⟩ k rfl); have IC := Lib.hid IC; obtain ⟨d, hd⟩ : ∃ d : ByteArray, (⟨#[UInt8.ofNat (48 + k)]⟩ : ByteArray) = d := ⟨_, rfl⟩; have hds : d.size = 1 := (by rw [← hd]; rfl); rw [hd] at HC; have hd' : (⟨[UInt8.ofNat (48 + k)].toArray⟩ : ByteArray) = d := hd; rw [hd'] at IC; have hds2 : d.size ≤ 1 := (by omega); clear hd hd' hds; obtain ⟨x, hx⟩ : ∃ x, elmN a k = x := ⟨_, rfl⟩; rw [hx] at HC ⊢; clear hx
  go_enter Tryz.func150, Tryz.ntmps150
  go_wp2_with (first
    | (go_at_call 176; ((with_reducible refine (IC.out _).mono ?_); rintro e w1 ⟨rfl, hw⟩; subst hw)))
  rw [HC.out]; refine bodyPost_ret (v := xv 2 0 x (.slice none 0 0)) (by simp [results, Tryz.results150, go_sem]) rfl ?_; exact ⟨rfl, by repeat' (first | exact Below.refl _ _ | (refine Below.alloc ?_ (by simp) _) | (refine Below.setCell (p := ⟨_, _, _⟩) ?_ (by simp) _))⟩
theorem szI_bound (fs : List Fld) (hS : ∀ f ∈ fs, 0 ≤ f.sz ∧ f.sz ≤ 8) (s : ByteArray) : 0 ≤ szI fs s ∧ szI fs s ≤ 8 := cntL_bound fs hS s
theorem length_any (fb : Nat) (fs : List Fld) (hS : ∀ f ∈ fs, 0 ≤ f.sz ∧ f.sz ≤ 8) (s : ByteArray) (w : World) (hf : FsA w fb fs) (hs : s.size ≤ 140737488351232) :
    Calls Tryz.prog 152 #[.map (some fb), .string s] w fun e w' => e = .returned (.int .i64 (szI fs s)) ∧ w = w' := by
  have hlk := hf.look s hs; have hb := szI_bound fs hS s; clear hf hs hS; generalize szI fs s = z at *
  have hmin : min z 9 = z := by omega
  go_enter Tryz.func152, Tryz.ntmps152
  go_wp2; go_ret; exact ⟨rfl, rfl⟩
theorem elV_fr (lo : Nat) (w : World) (a : ByteArray) (k : Nat) (ha : a.size ≤ 100) : Fr lo w (xv 2 0 (elmN a k) (.slice none 0 0)) (elV a k) :=
  fr_nil (by have := elm_sz a k ha; omega)
def BoxE (b : Nat) (e : Ex) (W : World) : Prop := ∃ p c, Four W b (.int .i64 e.op) (.int .i64 e.n) (.string e.nm) (.slice p e.args.length c) ∧ Fr (b + 1) W (xv e.op e.n e.nm (.slice p e.args.length c)) e
theorem BoxE.push {b : Nat} {T : Ex} {w5 : World} {p5 : Option Addr} {c5 : Nat} {N : ByteArray} (hf : Four w5 b (.int .i64 T.op) (.int .i64 T.n) (.string T.nm) (.slice p5 T.args.length c5)) (hx : Fr (b + 1) w5 (xv T.op T.n T.nm (.slice p5 T.args.length c5)) T) (hu : ∀ lo W, Fr lo W (xv 2 0 N (.slice none 0 0)) (.mk 2 0 N [])) (op : Int) :
    BoxE b (.mk op 0 ⟨#[]⟩ [T, .mk 2 0 N []]) (((((w5.setCell ⟨b, 0, none⟩ (.int .i64 op)).setCell ⟨b, 1, none⟩ (.int .i64 0)).setCell ⟨b, 2, none⟩ (.string ⟨#[]⟩)).setCell ⟨b, 3, none⟩ (.slice (some ⟨w5.heap.size, 0, none⟩) 2 2)).alloc (.cells #[.int .i64 T.op, .int .i64 T.n, .string T.nm, .slice p5 T.args.length c5, .int .i64 2, .int .i64 0, .string N, .slice none 0 0] 43)) := by
  have hlt := hf.lt; have h4 := hf.put (.int .i64 op) (.int .i64 0) (.string ⟨#[]⟩) (.slice (some ⟨w5.heap.size, 0, none⟩) 2 2); have hx4 := fr_put4 (g := b) hx (.int .i64 op) (.int .i64 0) (.string ⟨#[]⟩) (.slice (some ⟨w5.heap.size, 0, none⟩) 2 2); have hz : ((((w5.setCell ⟨b, 0, none⟩ (.int .i64 op)).setCell ⟨b, 1, none⟩ (.int .i64 0)).setCell ⟨b, 2, none⟩ (.string ⟨#[]⟩)).setCell ⟨b, 3, none⟩ (.slice (some ⟨w5.heap.size, 0, none⟩) 2 2)).heap.size = w5.heap.size := (by simp only [setCell_size]); obtain ⟨V, hV⟩ : ∃ V, ((((w5.setCell ⟨b, 0, none⟩ (.int .i64 op)).setCell ⟨b, 1, none⟩ (.int .i64 0)).setCell ⟨b, 2, none⟩ (.string ⟨#[]⟩)).setCell ⟨b, 3, none⟩ (.slice (some ⟨w5.heap.size, 0, none⟩) 2 2)) = V := ⟨_, rfl⟩; rw [hV] at h4 hx4 hz ⊢; have hb8 := ba V (.cells #[.int .i64 T.op, .int .i64 T.n, .string T.nm, .slice p5 T.args.length c5, .int .i64 2, .int .i64 0, .string N, .slice none 0 0] 43); have B8 := Blk.at_ hz [.int .i64 T.op, .int .i64 T.n, .string T.nm, .slice p5 T.args.length c5, .int .i64 2, .int .i64 0, .string N, .slice none 0 0] 43; refine ⟨some ⟨w5.heap.size, 0, none⟩, 2, h4.stay hb8, ?_⟩; exact two_args (T := fun k => b + 1 ≤ k ∧ k < _) (e := .mk 2 0 N []) ⟨by omega, B8.lt⟩ B8 (hx4.later hb8) (hu _ _)
theorem sumE_step (a : ByteArray) (k : Nat) (hk : 1 ≤ k) : sumE a k = .mk 7 0 ⟨#[]⟩ [sumE a (k - 1), elV a k] := by
  obtain ⟨m, rfl⟩ : ∃ m, k = m + 1 := ⟨k - 1, by omega⟩; rfl
set_option maxRecDepth 100000 in
set_option maxHeartbeats 16000000 in
theorem sumE_any (fb : Nat) (fs : List Fld) (hS : ∀ f ∈ fs, 0 ≤ f.sz ∧ f.sz ≤ 8) (a : ByteArray) (ha : a.size ≤ 100) (w : World) (hf : FsA w fb fs) (h1 : 1 ≤ szI fs a) :
    Calls Tryz.prog 101 #[.map (some fb), .string a] w (tFr (sumE a ((szI fs a).toNat - 1)) w) := by
  have h8 := szI_bound fs hS a; have HLN : Hid (∀ W, Below w.heap.size w W → Calls Tryz.prog 152 #[.map (some fb), .string a] W fun e w' => e = .returned (.int .i64 (szI fs a)) ∧ W = w') := (Lib.hid fun W hW => length_any fb fs hS a W (hf.later hW) (by omega)); have VC : Hid (∀ (k : Nat) W, k < 10 → Calls Tryz.prog 150 #[.string a, .int .i64 k] W fun e w' => e = .returned (xv 2 0 (elmN a k) (.slice none 0 0)) ∧ Below W.heap.size W w') := (Lib.hid fun k W hk => variable_any a k hk ha W); obtain ⟨n, hn⟩ : ∃ n : Nat, szI fs a = n := ⟨(szI fs a).toNat, by omega⟩; rw [hn] at HLN h8 h1 ⊢; rw [show ((n : Int)).toNat - 1 = n - 1 by omega]; have HA := Lib.hid ha; have hn1 : 1 ≤ n := (by omega); have hn8 : n ≤ 8 := (by omega); have V0 : Hid (∀ W, Calls Tryz.prog 150 #[.string a, .int .i64 0] W fun e w' => e = .returned (xv 2 0 (elmN a 0) (.slice none 0 0)) ∧ Below W.heap.size W w') := (Lib.hid fun W => VC.out 0 W (by omega)); have hbR := ba w (.cells #[.int .i64 0, .int .i64 0, .string ⟨#[]⟩, .slice none 0 0] 43); have FR := Four.new w (.int .i64 0) (.int .i64 0) (.string ⟨#[]⟩) (.slice none 0 0) 43; have HBR := Lib.hid hbR; have HFR := Lib.hid FR; clear hbR FR hf hn h8 h1 hS
  go_enter Tryz.func101, Tryz.ntmps101
  go_wp2_with (first
    | (go_at_call 150; ((with_reducible refine (V0.out _).mono ?_); rintro e w2 ⟨rfl, hb⟩; have HB2 := Lib.hid (HBR.out.then_ hb); have HF2 := Lib.hid (HFR.out.stay hb); clear hb)))
  have hbT := ba w2 (.cells #[.int .i64 2, .int .i64 0, .string (elmN a 0), .slice none 0 0] 43); have FT := Four.new w2 (.int .i64 2) (.int .i64 0) (.string (elmN a 0)) (.slice none 0 0) 43; have h2z := HB2.out.size; have hzT := World.size_alloc w2 (.cells #[.int .i64 2, .int .i64 0, .string (elmN a 0), .slice none 0 0] 43); have HFT := Lib.hid (HF2.out.stay hbT); have HBT := Lib.hid (HB2.out.then_ hbT); obtain ⟨wt, hwt⟩ : ∃ wt, w2.alloc (.cells #[.int .i64 2, .int .i64 0, .string (elmN a 0), .slice none 0 0] 43) = wt := ⟨_, rfl⟩; rw [hwt] at hbT FT HFT HBT hzT ⊢; have BT : Hid (BoxE w2.heap.size (sumE a (1 - 1)) wt) := Lib.hid ⟨none, 0, FT, elV_fr _ _ a 0 HA.out⟩; have h2r := HFR.out.lt; rw [World.size_alloc] at h2r; have hgr : w.heap.size < w2.heap.size := HF2.out.lt; clear hwt hbT FT HB2 HF2 HBR HFR h2r; go_loopw [6] (fun i wr => ∃ k : Nat, 1 ≤ k ∧ k ≤ n ∧ i = .int .i64 k ∧ Hid (BoxE w2.heap.size (sumE a (k - 1)) wr) ∧ Hid (Four wr w.heap.size (.int .i64 0) (.int .i64 0) (.string ⟨#[]⟩) (.slice none 0 0)) ∧ Hid (Below w.heap.size w wr)) (fun i _ => n - (intOf i).toNat)
  case atStart => exact ⟨1, Nat.le_refl _, hn1, rfl, BT, HFT, HBT⟩
  case round =>
    obtain ⟨k, hk1, hkn, rfl, BX, FX, BW⟩ := hrel; have LC := Lib.hid (HLN.out _ BW.out); obtain ⟨p5, c5, f5, x5⟩ := BX.out; have m0 := f5.c0; have m1 := f5.c1; have m2 := f5.c2; have m3 := f5.c3; by_cases hlt : k < n
    · have VK := Lib.hid (fun W => VC.out k W (by omega)); have ST := Lib.hid (sumE_step a k hk1); have HF5 := Lib.hid f5; have HX5 := Lib.hid x5; have EV := Lib.hid (fun lo W => elV_fr lo W a k HA.out); have hEVd : elV a k = .mk 2 0 (elmN a k) [] := rfl; rw [hEVd] at ST EV; clear f5 x5 BX hEVd; generalize sumE a (k - 1) = T at *
      generalize elmN a k = N at *
      go_wp2_with (first
        | (go_at_call 152; ((with_reducible refine LC.out.mono ?_); rintro e w4 ⟨rfl, rfl⟩)))
      go_region_with (go_at_call 150; refine (VK.out _).mono ?_; rintro e w5 ⟨rfl, hb⟩; have HB5 : Hid (Below wr.heap.size wr w5) := Lib.hid (by first | exact hb | exact (Below.refl _ _).drew.trans hb); have f5 := HF5.out.stay HB5.out; have hl5 := f5.lt; have e0 := f5.c0; have e1 := f5.c1; have e2 := f5.c2; have e3 := f5.c3; have z0 := f5.f0; have z1 := f5.f1; have z2 := f5.f2; have z3 := f5.f3; have G5 := Lib.hid f5; clear hb f5)
      all_goals
        have hz5 := HB5.out.size; go_wp2; go_roundw
        case rel => exact ⟨k + 1, by omega, by omega, by go_num, Lib.hid (by rw [show k + 1 - 1 = k by omega, ST.out]; exact BoxE.push G5.out (HX5.out.later HB5.out) EV.out 7), Lib.hid (((((FX.out.stay HB5.out).far (by omega)).far (by omega)).far (by omega)).far (by omega) |>.stay (ba _ _)), Lib.hid ((below_put (BW.out.then_ HB5.out) (by omega) _ _ _ _).then_ (ba _ _))⟩
        case measure => simp [intOf]; omega
    · have hkn2 : k = n := (by omega); have HX5 := Lib.hid x5; have r0 := FX.out.c0; have r1 := FX.out.c1; have r2 := FX.out.c2; have r3 := FX.out.c3; have s0 := FX.out.f0; have s1 := FX.out.f1; have s2 := FX.out.f2; have s3 := FX.out.f3; have HFN : Hid (sumE a (k - 1) = sumE a (n - 1)) := Lib.hid (by rw [hkn2]); clear f5 x5 BX hkn2; generalize sumE a (k - 1) = T at *
      go_wp2_with (first
        | (go_at_call 152; ((with_reducible refine LC.out.mono ?_); rintro e w4 ⟨rfl, rfl⟩)))
      have hp := FX.out.put (.int .i64 T.op) (.int .i64 T.n) (.string T.nm) (.slice p5 T.args.length c5); have p0 := hp.c0; have p1 := hp.c1; have p2 := hp.c2; have p3 := hp.c3; refine bodyPost_ret (v := xv T.op T.n T.nm (.slice p5 T.args.length c5)) (by simp [results, Tryz.results101, go_sem, p0, p1, p2, p3]) rfl ?_; rw [← HFN.out]; exact ⟨_, rfl, (((((HX5.out.low (lo' := w.heap.size + 1) (by omega)).set (by omega)).set (by omega)).set (by omega)).set (by omega)).low (by omega), below_put BW.out (Nat.le_refl _) _ _ _ _⟩
end Go.Proofs.YtpejflgdehioaaaGreatDoor.ItW
