/-
  Laws that the card uses; no conditions beside those that each states (ItExM ItCheck ItExp ItVar ItCho ItElm ItScM).
-/
import Derived.Test.YtpejflgdehioaaaGreatDoorR20
namespace Go.Proofs.YtpejflgdehioaaaGreatDoor.ItW
open Go Go.Proofs.YtpejflgdehioaaaGreatDoor.NumM Go.Proofs.YtpejflgdehioaaaGreatDoor.LexW Go.Proofs.YtpejflgdehioaaaGreatDoor.LexM Go.Proofs.YtpejflgdehioaaaGreatDoor.ExM Go.Proofs.YtpejflgdehioaaaGreatDoor.ExW Go.Proofs.YtpejflgdehioaaaGreatDoor.ItM
open Go.Proofs.YtpejflgdehioaaaGreatDoor.ClM (Fld firstE_zero)
theorem dpt_of : ∀ (k : Nat) (l : List It) (d : Nat) (B : List ByteArray), d + k = 5 → (∀ p ∈ wks d B l, p.d ≤ 4) → dpt k l
  | 0, l, d, B, hd, h => by
    cases l with
    | nil => rfl
    | cons x r =>
      have := h ⟨d, B, x⟩ (by rw [wks_cons, wk_eq]; simp); simp at this; omega
  | k + 1, l, d, B, hd, h => fun x hx => by
    obtain ⟨s, t, rfl⟩ := List.append_of_mem hx; refine ⟨dpt_of k x.it (d + 1) (inn x.kd x.ix B) (by omega) fun p hp => h p ?_, dpt_of k x.el (d + 1) B (by omega) fun p hp => h p ?_⟩
    · rw [wks_append, wks_cons, wk_eq]; simp [hp]
    · rw [wks_append, wks_cons, wk_eq]; simp [hp]
theorem flt_deep {d : Nat} {x : It} (h : fltI d x = 0) : d ≤ 4 := by
  unfold fltI at h; split at h
  · cases h
  · rename_i hn; simp only [Bool.or_eq_true, decide_eq_true_eq, not_or] at hn; omega
theorem dpt_valid {l : List It} (h : validI l = 0) : dpt 5 l := by
  unfold validI at h; split at h
  · cases h
  · refine (dpt_of 5 l 0 [] rfl fun p hp => ?_); exact flt_deep (firstE_zero.1 h _ (List.mem_map_of_mem hp))
theorem exL_sz (fs : List Fld) (l : List It) : ∀ (k : Nat) (q : Option Ex) (σ : Ex → Ex), dpt k l → k ≤ 6 → SmE l → (∀ e, sz (σ e) ≤ sz e) → (∀ c, q = some c → sz c + 1002 * k ≤ 9000) → ∀ x ∈ exL fs q σ l, sz x.e ≤ 10000 := by
  induction l using its_ind with
  | h l ih =>
    intro k q σ hd hk hsm hσ hq x hx; have hone : ∀ a ∈ l, ∀ x ∈ exI fs q σ a, sz x.e ≤ 10000 := by
      intro a ha x hx; obtain ⟨k', hd1, hd2, hk'⟩ : ∃ k', dpt k' a.it ∧ dpt k' a.el ∧ k' + 1 = k := by
        cases k with
        | zero => have h0 : l = [] := hd; rw [h0] at ha; cases ha
        | succ k => exact ⟨k, (hd a ha).1, (hd a ha).2, rfl⟩
      obtain ⟨h1, h2, h3⟩ := hsm.one ha; have hse : sz (σ a.e) ≤ 1000 := Nat.le_trans (hσ _) h1; have hu : ∀ (op : Int) (e : Ex), sz e ≤ 1001 → ∀ c, some (und q op e) = some c → sz c + 1002 * k' ≤ 9000 := fun op e he c hc => by
        cases hc; have h4 := sz_und q op e; cases q with
        | none => simp only at h4; omega
        | some c0 => have := hq c0 rfl; simp only at h4; omega
      rw [exI_eq] at hx; split at hx
      · rcases List.mem_append.1 hx with hx | hx
        · exact (ih a ha).1 k' _ _ hd1 (by omega) h2 hσ (hu 19 _ (by omega)) x hx
        · exact (ih a ha).2 k' _ _ hd2 (by omega) h3 hσ (hu 19 _ (by rw [sz_not]; omega)) x hx
      · split at hx
        · obtain ⟨i, _, hx⟩ := List.mem_flatMap.1 hx; exact (ih a ha).1 k' _ _ hd1 (by omega) h2 (fix_sz hσ a.ix i) (fun c hc => by have := hq c hc; omega) x hx
        · split at hx
          · obtain rfl : x = hardI a.kd (und q 21 (σ a.e)) := (by simpa using hx); show sz (und q 21 (σ a.e)) ≤ 10000; have h4 := sz_und q 21 (σ a.e); cases q with
            | none => simp only at h4; omega
            | some c0 => have := hq c0 rfl; simp only at h4; omega
          · obtain rfl : x = outI a := (by simpa using hx); show sz zE ≤ 10000; unfold zE; rw [sz_mk, szs_nil]; omega
    clear ih hd hsm hq hσ; induction l with
    | nil => rw [exL_nil] at hx; cases hx
    | cons a r ih2 =>
      rw [exL_cons] at hx; rcases List.mem_append.1 hx with hx | hx
      · exact hone a (by simp) x hx
      · exact ih2 hx fun b hb => hone b (by simp [hb])
end Go.Proofs.YtpejflgdehioaaaGreatDoor.ItW
namespace Go.Proofs.YtpejflgdehioaaaGreatDoor.ItW
open Go Go.RowKit Go.Shelf Go.Proofs.YtpejflgdehioaaaGreatDoor.LexW Go.Proofs.YtpejflgdehioaaaGreatDoor.LexM Go.Proofs.YtpejflgdehioaaaGreatDoor.ExM Go.Proofs.YtpejflgdehioaaaGreatDoor.ExW Go.Proofs.YtpejflgdehioaaaGreatDoor.ItM
open Go.Proofs.YtpejflgdehioaaaGreatDoor.ClM (Fld firstE firstE_zero)
attribute [local go_sem] Oper.semAt_some
theorem fine_all {l0 : List It} (h : validI l0 = 0) : ∀ q ∈ wks 0 [] l0, FineI q.x := by
  unfold validI at h; split at h
  · cases h
  · intro q hq; exact fine_of (d := q.d) (firstE_zero.1 h _ (List.mem_map_of_mem hq))
theorem fMap_own {α : Type} {W0 : World} {fb n : Nat} {fs : List Fld} (hlt : fb < W0.heap.size) : OwnFrom W0.heap.size (fun (_ : α) W => FMap W fb n fs) := fun _ _ _ _ hs hg hr => hs.kept hg (fun e => by have := (hr _ e.symm).1; omega)
set_option maxRecDepth 100000 in
set_option maxHeartbeats 8000000 in
theorem itemCheck_any (l0 : List It) (fs : List Fld) (hS : ∀ f ∈ fs, 0 ≤ f.sz ∧ f.sz ≤ 100) (hF : fs.length ≤ 10000) (v cv : Value) (w : World) (hx : ItsA w.heap.size w v l0) (hc : ClA w.heap.size w cv fs) (hsz : iszs l0 ≤ 10000) (hrs : RsL l0) (ht : TabI w) :
    Calls Tryz.prog 20 #[v, cv] w (tInt (checkI fs l0) w) := by
  obtain ⟨p, cap, V, rfl, hri⟩ := hx.form; have HX := Lib.hid hx; have HT := Lib.hid ht; have HRS : Hid (∀ q ∈ wks 0 [] l0, Nd1 q.x) := Lib.hid (rs_wks l0 0 [] hrs); have VC : Hid (∀ n W, Below w.heap.size w W → CallsIn Fence.wide n Tryz.prog 17 #[.slice p l0.length cap] W (tInt (validI l0) W)) := (Lib.hid fun n W hW => callsIn_wide.2 (itemValid_any l0 _ W ((HX.out.under hW).wide hW.size) hsz hrs (HT.out.later hW).tab)); have FC : Hid (∀ n W, Below w.heap.size w W → CallsIn Fence.wide n Tryz.prog 43 #[cv] W fun e w' => ∃ fb n, e = .returned (.map (some fb)) ∧ W.heap.size ≤ fb ∧ FMap w' fb n fs ∧ Below W.heap.size W w') := (Lib.hid fun n W hW => callsIn_wide.2 (fieldsOf_any fs hS hF cv W ((hc.under hW).wide hW.size))); obtain ⟨cnm, par, vf, pb, kb, cb, rfl, pf, cf, rfl, _⟩ := hc; have hK0 : l0.length ≤ 140737488351232 := (by have := hri.hl; omega); clear hx ht hrs hri; generalize l0.length = K at *
  generalize fs.length = KF at *
  have HZ := Lib.hid hsz; refine (callsIn_wide (n := 9)).1 ?_; refine callsIn_of_wp_marks Tryz.func20 rfl trivial ?_ rfl; simp only [Tryz.ntmps20, List.size_toArray, List.length_cons, List.length_nil, Nat.reduceAdd, Nat.reduceSub, Array.replicate_succ, Array.replicate_zero, List.push_toArray, List.append_toArray, List.nil_append, List.cons_append]; obtain ⟨OC, hOC⟩ : ∃ O : Obj, O = .cells #[.string cnm, .string par, .slice pf KF cf, .slice pb kb cb] 34 := ⟨_, rfl⟩; have hbR : Below w.heap.size w ((w.alloc OC).alloc (.cells #[.int .i64 0] 29)) := ((Below.refl _ _).alloc (Nat.le_refl _) _).alloc (by simp) _; have bR0 := Boxed.new (w.alloc OC) 29 (.int .i64 0); rw [World.size_alloc] at bR0; have BC0 := (Blk.new w [.string cnm, .string par, .slice pf KF cf, .slice pb kb cb] 34).alloc (.cells #[.int .i64 0] 29); subst hOC; have HBR := Lib.hid hbR; have HR0 := Lib.hid bR0; have HC0 := Lib.hid BC0; clear hbR bR0 BC0; have HV : Hid (checkI fs l0 = if validI l0 = 0 then firstC fs l0 else validI l0) := Lib.hid rfl; have HFI : Hid (validI l0 = 0 → ∀ q ∈ wks 0 [] l0, FineI q.x) := Lib.hid fine_all; generalize validI l0 = E0 at *
  by_cases h0 : E0 = 0
  · subst h0; have HV2 : Hid (checkI fs l0 = firstC fs l0) := Lib.hid (by rw [HV.out, if_pos rfl])
    gi_wp2_with (first
      | (refine ⟨trivial, ?_⟩; gi_at_call 17; refine (VC.out _ _ HBR.out).mono ?_; rintro e w1 ⟨rfl, hb⟩; have bR := bxStay HR0.out hb; have HB1 := Lib.hid (HBR.out.then_ hb); have HR1 := Lib.hid bR; have C1 := HC0.out.stay hb; have d0 := C1.c 0 _ rfl; have d1 := C1.c 1 _ rfl; have d2 := C1.c 2 _ rfl; have d3 := C1.c 3 _ rfl; clear hb bR C1)
      | (refine ⟨trivial, ?_⟩; gi_at_call 43; refine (FC.out _ _ HB1.out).mono ?_; rintro e w2 ⟨fb, fn, rfl, hfb, hfm, hb⟩; have bR := bxStay HR1.out hb; have HB2 := Lib.hid (HB1.out.then_ hb); have HR2 := Lib.hid bR; have HFM := Lib.hid hfm; clear hb bR hfm)
      | (refine ⟨trivial, ?_⟩; gi_at_call 36; refine (constraints_in Fence.wide _ trivial rfl _ _ _ _).mono ?_; rintro e w' ⟨rfl, rfl⟩))
    have hs1 := HB1.out.size; have hs2 := HB2.out.size; have hR2l := HR2.out.lt; have hfl := HFM.out.lt; have bR := (HR2.out.alloc (.cells #[.map (some fb)] 79)).alloc (.cells #[.slice p K cap] 22); have bF := (Boxed.new w2 79 (.map (some fb))).alloc (.cells #[.slice p K cap] 22); have bL := Boxed.new (w2.alloc (.cells #[.map (some fb)] 79)) 22 (.slice p K cap); have hM0 := (HFM.out.below (ba w2 (.cells #[.map (some fb)] 79))).below (ba _ (.cells #[.slice p K cap] 22)); have hB0 : Below w.heap.size w ((w2.alloc (.cells #[.map (some fb)] 79)).alloc (.cells #[.slice p K cap] 22)) := (HB2.out.alloc (by omega) _).alloc (by simp; omega) _; have hz : ((w2.alloc (.cells #[.map (some fb)] 79)).alloc (.cells #[.slice p K cap] 22)).heap.size = w2.heap.size + 2 := (by simp); simp only [World.size_alloc] at bL; obtain ⟨W0, hW0⟩ : ∃ W0, (w2.alloc (.cells #[.map (some fb)] 79)).alloc (.cells #[.slice p K cap] 22) = W0 := ⟨_, rfl⟩; rw [hW0] at bR bF bL hM0 hB0 hz ⊢; clear hW0 d0 d1 d2 d3
    refine range_tells rfl (by decide) (gf := 65) (lb := #[.pointer (some ⟨w2.heap.size + 1, 0, none⟩)]) rfl trivial (enters_of Tryz.func65 (by kernel_rfl) rfl)
      (constraints_tells Fence.wide rfl _ trivial trivial rfl w.heap.size (w.heap.size + 2) (w2.heap.size + 1) (by omega) l0 hsz (fun q => Nd1 q.x ∧ FineI q.x) (fun q hq => ⟨HRS.out q hq, HFI.out (by first | trivial | rfl) q hq⟩) _ W0 (by omega) bL (HX.out.under hB0)) keepC_t (keepC_b (by omega)) (fun _ => rfl)
      (fun bef W => (((Boxed W (w.heap.size + 1) 29 (.int .i64 0) ∧ Boxed W w2.heap.size 79 (.map (some fb))) ∧ FMap W fb fn fs) ∧ firstE ((bef.map Pn.pl).map (chkP fs)) = 0) ∧ Below w.heap.size w W)
      (fun c bef W => (Boxed W (w.heap.size + 1) 29 (.int .i64 (firstE ((bef.map Pn.pl).map (chkP fs)))) ∧ (c = .ret ∧ firstE ((bef.map Pn.pl).map (chkP fs)) ≠ 0)) ∧ Below w.heap.size w W)
      (OwnFrom.and (OwnFrom.and (OwnFrom.and (OwnFrom.and (Own.from (boxed_own _ _ _) _) (Own.from (boxed_own _ _ _) _)) (fMap_own (by omega))) (ownFrom_pure _ _)) (ownFrom_below (Nat.le_refl _) (by omega)))
      (fun c => OwnFrom.and (OwnFrom.and (Own.from (boxed_own _ _ _) _) (ownFrom_pure _ _)) (ownFrom_below (Nat.le_refl _) (by omega)))
      ⟨⟨⟨⟨bR, bF⟩, hM0⟩, rfl⟩, hB0⟩ ?round ?done ?stop
    case round =>
      rintro l bef x W hl ⟨⟨⟨⟨bR1, bF1⟩, hM1⟩, hf1⟩, hB1⟩ htell hlt; have hnd := htell.2; have HMP : Hid (firstE (((bef ++ [x]).map Pn.pl).map (chkP fs)) = chkP fs x.pl) := Lib.hid (by rw [List.map_append, List.map_append, List.map_cons, List.map_nil, List.map_cons, List.map_nil, firstE_snoc, if_pos hf1]); have hWs := hB1.size; have hl1 := bR1.lt; have hml := hM1.lt; have HBR1 := Lib.hid bR1; have HBF1 := Lib.hid bF1; have HM1 := Lib.hid hM1; have HF1 := Lib.hid hf1; have HBW := Lib.hid hB1; obtain ⟨bn, hbm⟩ := htell.1; have HBM := Lib.hid hbm; clear htell bR1 hf1 hB1 bF1 hM1 hbm; have hpl : x.pl = ⟨x.d, x.B, x.x⟩ := rfl; rw [hpl] at HMP hnd; obtain ⟨d, B, it, a4, a7, a8, a9, a10, a11, mb, hd, hv⟩ := x; simp only at HMP hnd hpl HBM ⊢; obtain ⟨p4, k4, p7, k7, p8, k8, p9, k9, p10, k10, p11, k11, rfl, rfl, rfl, rfl, rfl, rfl⟩ := hv.slices; rw [zip2]; have b1 : Below W.heap.size W ((W.alloc (.cells #[.int .i64 d, .map (some mb)] 70)).alloc (.cells (ics it.kd it.e.op it.e.n it.e.nm (.slice p4 it.e.args.length k4) it.nm it.ix (.slice p7 it.ws.length k7) (.slice p8 it.it.length k8) (.slice p9 it.el.length k9) (.slice p10 it.bf.length k10) (.slice p11 it.af.length k11)).toArray 55)) := ((Below.refl _ _).alloc (Nat.le_refl _) _).alloc (by simp) _; have FP := (Blk.new W [.int .i64 d, .map (some mb)] 70).alloc (.cells (ics it.kd it.e.op it.e.n it.e.nm (.slice p4 it.e.args.length k4) it.nm it.ix (.slice p7 it.ws.length k7) (.slice p8 it.it.length k8) (.slice p9 it.el.length k9) (.slice p10 it.bf.length k10) (.slice p11 it.af.length k11)).toArray 55); have FI := Blk.new (W.alloc (.cells #[.int .i64 d, .map (some mb)] 70)) (ics it.kd it.e.op it.e.n it.e.nm (.slice p4 it.e.args.length k4) it.nm it.ix (.slice p7 it.ws.length k7) (.slice p8 it.it.length k8) (.slice p9 it.el.length k9) (.slice p10 it.bf.length k10) (.slice p11 it.af.length k11)) 55; rw [World.size_alloc] at FI; have B1 := Lib.hid b1; have FP1 := Lib.hid FP; have FI1 := Lib.hid FI; clear b1 FP FI
      gi_wp2
      refine ⟨keepsFrom_below B1.out, KeepC.of_below B1.out, ⟨⟨⟨⟨bxStay HBR1.out B1.out, bxStay HBF1.out B1.out⟩, HM1.out.below B1.out⟩, HF1.out⟩, HBW.out.trans (B1.out.mono hWs)⟩, ?_⟩; rintro Wb hnear ⟨⟨⟨⟨bR2, bF2⟩, hM2⟩, _⟩, hB2⟩; have d1 := hnear.cell (FP1.out.c 1 _ rfl); have e0 := hnear.cell (FI1.out.c 0 _ rfl); have e1 := hnear.cell (FI1.out.c 1 _ rfl); have e2 := hnear.cell (FI1.out.c 2 _ rfl); have e3 := hnear.cell (FI1.out.c 3 _ rfl); have e4 := hnear.cell (FI1.out.c 4 _ rfl); have e5 := hnear.cell (FI1.out.c 5 _ rfl); have e6 := hnear.cell (FI1.out.c 6 _ rfl); have e7 := hnear.cell (FI1.out.c 7 _ rfl); have e8 := hnear.cell (FI1.out.c 8 _ rfl); have e9 := hnear.cell (FI1.out.c 9 _ rfl); have e10 := hnear.cell (FI1.out.c 10 _ rfl); have e11 := hnear.cell (FI1.out.c 11 _ rfl); have cF := bF2.cell; have hsb := hB2.size; have hlR := bR2.lt; have hbm2 : BMap Wb (.map (some mb)) B := .inr ⟨mb, bn, rfl, (HBM.out.below B1.out).near hnear⟩; have FC : Hid (∀ n, CallsIn (Fence.wide.inRound l) n Tryz.prog 44 #[.map (some fb), iv it.kd it.e.op it.e.n it.e.nm (.slice p4 it.e.args.length k4) it.nm it.ix (.slice p7 it.ws.length k7) (.slice p8 it.it.length k8) (.slice p9 it.el.length k9) (.slice p10 it.bf.length k10) (.slice p11 it.af.length k11), .map (some mb)] Wb (tInt (chkI fs B it) Wb)) :=
        Lib.hid fun n => CallsIn.inRound l (callsIn_wide.2 (check_any fb fs (some mb) B it _ _ _ _ _ _ w.heap.size Wb ⟨⟨fn, hM2⟩, HT.out.later hB2⟩ hbm2 (hv.kept (below_in hB0 hB2) (Nat.le_refl _)) hsb hnd.1 hnd.2))
      have BR2 := Lib.hid bR2; have BF2 := Lib.hid bF2; have HM2 := Lib.hid hM2; have HB2' := Lib.hid hB2; clear bR2 hB2 hnear bF2 hM2 hbm2; by_cases hf : chkI fs B it = 0
      · rw [hf] at FC; have HE : Hid (firstE (((bef ++ [(⟨d, B, it, .slice p4 it.e.args.length k4, .slice p7 it.ws.length k7, .slice p8 it.it.length k8, .slice p9 it.el.length k9, .slice p10 it.bf.length k10, .slice p11 it.af.length k11, mb, hd, hv⟩ : Pn w.heap.size W0)]).map Pn.pl).map (chkP fs)) = 0) := Lib.hid (by rw [HMP.out]; exact hf); clear hf
        gi_wp2_with (refine ⟨trivial, ?_⟩; gi_at_call 44; refine (FC.out _).mono ?_; rintro e w3 ⟨rfl, hb⟩; have bR3 := bxStay BR2.out hb; have bF3 := bxStay BF2.out hb; have hM3 := HM2.out.below hb; have HBc := Lib.hid hb; have BR3 := Lib.hid bR3; have BF3 := Lib.hid bF3; have HM3 := Lib.hid hM3; clear hb bR3 bF3 hM3)
        exact ⟨keepsFrom_below HBc.out, KeepC.of_below HBc.out, ⟨⟨⟨⟨BR3.out, BF3.out⟩, HM3.out⟩, HE.out⟩, HB2'.out.trans (HBc.out.mono hsb)⟩⟩
      · have HE : Hid (firstE (((bef ++ [(⟨d, B, it, .slice p4 it.e.args.length k4, .slice p7 it.ws.length k7, .slice p8 it.it.length k8, .slice p9 it.el.length k9, .slice p10 it.bf.length k10, .slice p11 it.af.length k11, mb, hd, hv⟩ : Pn w.heap.size W0)]).map Pn.pl).map (chkP fs)) = chkI fs B it) := Lib.hid HMP.out; obtain ⟨E, hE0⟩ : ∃ E, chkI fs B it = E := ⟨_, rfl⟩; rw [hE0] at FC HE hf; clear hE0; have hE : (E != 0) = true := (by simpa using hf); have HNE := Lib.hid hf; clear hf
        gi_wp2_with (refine ⟨trivial, ?_⟩; gi_at_call 44; refine (FC.out _).mono ?_; rintro e w3 ⟨rfl, hb⟩; have bR3 := bxStay BR2.out hb; have cR := bR3.cell; have fR := bR3.frozen; have HBc := Lib.hid hb; have BR3 := Lib.hid bR3; clear hb bR3)
        refine ⟨(keepsFrom_below HBc.out).trans ((KeepsOthers.setCell _ _ _).from _), (KeepC.of_below HBc.out).set (by omega) (by omega) _, ⟨?_, rfl, by rw [HE.out]; exact HNE.out⟩, (HB2'.out.trans (HBc.out.mono hsb)).setCell (p := ⟨w.heap.size + 1, 0, none⟩) (by simp) _⟩; rw [HE.out]; exact BR3.out.set _
    case done =>
      rintro D zs W hD hzs ⟨⟨⟨⟨bR1, _⟩, _⟩, hf1⟩, hB1⟩ hK; have HV3 : Hid (0 = checkI fs l0) := Lib.hid (by rw [HV2.out]; unfold firstC; rw [← hzs, hf1]); have HBW := Lib.hid hB1; have cR := bR1.cell; have fR := bR1.frozen; have HKD := Lib.hid hK; clear bR1 hf1 hzs hB1
      gi_wp2
      have hK' := (KeepsOthers.setCell W ⟨w.heap.size + 1, 0, none⟩ (.int .i64 0)).same D _ HKD.out rfl; refine ⟨by simp, .inl ⟨_, _, rfl, run_takeDeferred hK', ?_⟩⟩; have hc5 := cell_kept (World.cell?_setCell_same' W ⟨w.heap.size + 1, 0, none⟩ (.int .i64 0) (by rw [cR]; rfl)) (grownBy_putObj' _ D (.deferred none)) (fun r e => by cases e; exact ⟨_, hK', rfl⟩); refine ⟨.int .i64 0, ?_, by rw [HV3.out], (HBW.out.setCell (p := ⟨w.heap.size + 1, 0, none⟩) (by simp) _).trans (belowK_b (w := w) (Nat.le_refl _) _ D _ _ (by omega) hK' rfl rfl)⟩; simp [results, Tryz.results20, go_sem, hc5]
    case stop =>
      rintro D c bef W hD hpre ⟨⟨bR1, rfl, hne⟩, hB1⟩ hK; have HV3 : Hid (firstE ((bef.map Pn.pl).map (chkP fs)) = checkI fs l0) := Lib.hid (by rw [HV2.out]; unfold firstC; rw [first_of hpre rfl hne]); have HBW := Lib.hid hB1; have cR := bR1.cell; clear bR1 hne hpre hB1
      gi_wp2
      refine ⟨by simp, .inl ⟨_, _, rfl, run_takeDeferred hK, ?_⟩⟩; have hc5 := cell_kept cR (grownBy_putObj' _ D (.deferred none)) (fun r e => by cases e; exact ⟨_, hK, rfl⟩); refine ⟨.int .i64 (firstE ((bef.map Pn.pl).map (chkP fs))), ?_, by rw [HV3.out], HBW.out.trans (belowK_b (w := w) (Nat.le_refl _) W D _ _ (by omega) hK rfl rfl)⟩; simp [results, Tryz.results20, go_sem, hc5]
  · have HV2 : Hid (E0 = checkI fs l0) := Lib.hid (by rw [HV.out, if_neg h0]); have q0 : (E0 != 0) = true := (by simpa using h0); clear h0
    gi_wp2_with (refine ⟨trivial, ?_⟩; gi_at_call 17; refine (VC.out _ _ HBR.out).mono ?_; rintro e w1 ⟨rfl, hb⟩; have bR := bxStay HR0.out hb; have cR := bR.cell; have fR := bR.frozen; have HB1 := Lib.hid (HBR.out.then_ hb); clear hb)
    refine ⟨.int .i64 E0, ?_, ExW.tInt_mk HV2.out (HB1.out.setCell (p := ⟨w.heap.size + 1, 0, none⟩) (by simp) _)⟩; have hc5 := World.cell?_setCell_same' w1 ⟨w.heap.size + 1, 0, none⟩ (.int .i64 E0) (by rw [cR]; rfl); simp [results, Tryz.results20, go_sem, hc5]
end Go.Proofs.YtpejflgdehioaaaGreatDoor.ItW
namespace Go.Proofs.YtpejflgdehioaaaGreatDoor.ItW
open Go Go.RowKit Go.Proofs.YtpejflgdehioaaaGreatDoor.NumM Go.Proofs.YtpejflgdehioaaaGreatDoor.LexW Go.Proofs.YtpejflgdehioaaaGreatDoor.LexM Go.Proofs.YtpejflgdehioaaaGreatDoor.ExM Go.Proofs.YtpejflgdehioaaaGreatDoor.ExW Go.Proofs.YtpejflgdehioaaaGreatDoor.ItM
open Go.Proofs.YtpejflgdehioaaaGreatDoor.ClM (Fld)
theorem its_of {W : World} {n0 : Nat} {v : Value} {L : List Pc} (hr : W.ownsRow n0 55 12 v L.length (L.flatMap pcC)) (hl : L.length ≤ 1000) (hp : ∀ p ∈ L, PcS (fun b => b < W.heap.size) W p) : ItsA W.heap.size W v (L.map Pc.x) := by
  obtain ⟨p, cap, rfl, hc, h0⟩ := own_at hr (flat_len pcC_len L); have hlen : (L.map Pc.x).length = L.length := List.length_map ..; have := RowI.its (N := W.heap.size) (w := W) (p := p) (cap := cap) (V := fun i r => match L[i]? with | some q => (pcC q).getD r undef | none => undef) (l := L.map Pc.x) ⟨by omega, by omega, fun hpos => ?_, fun i x hx => ?_⟩
  · rw [hlen] at this; exact this
  · obtain ⟨g, rfl, hg, _, hcell⟩ := h0 (by omega); refine ⟨g, 0, rfl, hg.2, fun i x hx => ?_⟩; rw [List.getElem?_map] at hx; obtain ⟨q, hq, rfl⟩ := Option.map_eq_some_iff.1 hx; have hf := (fun r (hr : r < 12) => flat_at pcC_len L i r q hq hr); have e : ∀ r u, r < 12 → (pcC q)[r]? = some u → W.cell? ⟨g, 0 + i * 12 + r, none⟩ = some u := fun r u h1 h2 => by
      rw [Nat.zero_add]; exact hcell _ _ ((hf r h1).trans h2)
    have e0 := e 0 _ (by decide) rfl; rw [Nat.add_zero] at e0; refine ⟨e0, e 1 _ (by decide) rfl, e 2 _ (by decide) rfl, e 3 _ (by decide) rfl, ?_, e 5 _ (by decide) rfl, e 6 _ (by decide) rfl, ?_, ?_, ?_, ?_, ?_⟩
    · rw [hq]; exact e 4 _ (by decide) rfl
    · rw [hq]; exact e 7 _ (by decide) rfl
    · rw [hq]; exact e 8 _ (by decide) rfl
    · rw [hq]; exact e 9 _ (by decide) rfl
    · rw [hq]; exact e 10 _ (by decide) rfl
    · rw [hq]; exact e 11 _ (by decide) rfl
  · rw [List.getElem?_map] at hx; obtain ⟨q, hq, rfl⟩ := Option.map_eq_some_iff.1 hx; have h := hp q (List.mem_of_getElem? hq); rw [hq]; exact ⟨h.nm, h.ix, h.ex.toAt (fun _ q => q), h.wt.toAt (fun _ q => q), by rw [h.it]; exact ItsA.nil _ _ _ _, by rw [h.el]; exact ItsA.nil _ _ _ _, h.bf.toAt (fun _ q => q), h.af.toAt (fun _ q => q)⟩
theorem XL.its {xb fb n0 : Nat} {W : World} {v : Value} {L : List Pc} (h : XL xb fb n0 W v L) (hl : L.length ≤ 1000) : ItsA W.heap.size W v (L.map Pc.x) :=
  its_of h.row hl fun p hp => (h.parts p hp).eq fun _ q => ⟨q.1, rfl⟩
def tLB (X : List It) (b : Bool) (w : World) (x : Ending) (w' : World) : Prop := ∃ v, x = .returned (.tuple #[v, .bool b]) ∧ ItsA w'.heap.size w' v X ∧ Below w.heap.size w w'
def exdS (fs : List Fld) (l : List It) : List It × Bool := if 400 < cntL fs l then ([], false) else (exL fs none (fun a => a) l, true)
set_option maxRecDepth 100000 in
set_option maxHeartbeats 16000000 in
theorem expanded_any (fb : Nat) (fs : List Fld) (hS : ∀ f ∈ fs, 0 ≤ f.sz ∧ f.sz ≤ 8) (l : List It) (v : Value) (w : World) (hd : dpt 5 l) (hsz : iszs l ≤ 10000) (hsm : SmE l) (hf : FsA w fb fs) (hx : ItsA w.heap.size w v l) :
    Calls Tryz.prog 46 #[.map (some fb), v] w (tLB (exdS fs l).1 (exdS fs l).2 w) := by
  obtain ⟨p, cap, V, rfl, hri⟩ := hx.form; have CN := Lib.hid (count_any fb fs hS l 5 _ w.heap.size w hd (by decide) hsz hf hx (Nat.le_refl _)); have EE : Hid (exdS fs l = if 400 < cntL fs l then ([], false) else (exL fs none (fun a => a) l, true)) := Lib.hid rfl; have hl0 := exL_len fs hS l none (fun a => a); obtain ⟨c, hc⟩ : ∃ c, cntL fs l = c := ⟨_, rfl⟩; by_cases h4 : 400 < c
  · rw [hc] at CN EE; rw [if_pos h4] at EE; have hd4 : decide ((400 : Int) < c) = true := decide_eq_true h4; clear hc hl0 hri hx hf hsm hS hd; generalize l.length = K at *
    go_enter Tryz.func46, Tryz.ntmps46
    go_wp2_with (first
      | (go_at_call 86; ((with_reducible refine CN.out.mono ?_); rintro e w1 ⟨rfl, hb⟩; have HB := Lib.hid hb; clear hb)))
    go_ret2; rw [EE.out]; exact ⟨_, rfl, ItsA.nil _ _ _ _, HB.out⟩
  · have hd4 : decide ((400 : Int) < c) = false := decide_eq_false h4; have HEX : Hid ((exL fs none (fun a => a) l).length ≤ 400) := Lib.hid (by omega); have AD : Hid (∀ w1, Below w.heap.size w w1 → Calls Tryz.prog 87 #[.pointer (some ⟨w1.heap.size, 0, none⟩), .slice p l.length cap, .pointer none, .func (.func 88) #[] #[]] (w1.alloc (.cells #[.map (some fb), .slice none 0 0] 120)) (AddP w w1.heap.size fb [] (exL fs none (fun a => a) l) (w1.alloc (.cells #[.map (some fb), .slice none 0 0] 120)))) := Lib.hid fun w1 hb1 => by
      have hs1 := hb1.size; have hba := ba w1 (.cells #[.map (some fb), .slice none 0 0] 120); have hxl : XL w1.heap.size fb w.heap.size (w1.alloc (.cells #[.map (some fb), .slice none 0 0] 120)) (.slice none 0 0) [] :=
        ⟨Blk.new w1 [.map (some fb), .slice none 0 0] 120, World.ownsRow_nil _ _ _ _, fun e => by simp [Value.ownBlock] at e, fun p hp => by cases hp⟩
      have := add_any w w1.heap.size fb hs1 fs hS hf l 5 none (fun a => a) 88 #[] (.pointer none) (.slice none 0 0) _ [] _ hd (by decide) hsz hsm hx (hb1.then_ hba) hxl (FixC.clone _ _) (fun _ => Nat.le_refl _) rfl (fun c hc => by cases hc) (by simp; omega); exact this
    rw [hc] at CN EE; rw [if_neg h4] at EE; clear hc hl0 hri hx hf hsm hS hd; generalize l.length = K at *
    generalize exL fs none (fun a => a) l = X at *
    go_enter Tryz.func46, Tryz.ntmps46
    go_wp2_with (first
      | (go_at_call 86; ((with_reducible refine CN.out.mono ?_); rintro e w1 ⟨rfl, hb⟩; have HB := Lib.hid hb; clear hb))
      | (go_at_call 87; ((with_reducible refine (AD.out _ HB.out).mono ?_); rintro e w2 ⟨rfl, u, M, hxl, hm, hk, hb2⟩; have HX := Lib.hid hxl; have HM := Lib.hid hm; have HB2 := Lib.hid hb2; have m1 := hxl.bx.c 1 _ rfl; clear hxl hm hk hb2)))
    go_ret2; rw [EE.out]; refine ⟨_, rfl, ?_, HB2.out⟩; have hlen : M.length ≤ 400 := (by have := congrArg List.length HM.out; rw [List.length_map] at this; have := HEX.out; omega); have := HX.out.its (by simpa using (show M.length ≤ 1000 by omega)); rw [List.nil_append] at this; show ItsA _ _ _ X; rw [← HM.out]; exact this
def tLE (r : List It × Int) (w : World) (x : Ending) (w' : World) : Prop := ∃ v, x = .returned (.tuple #[v, .int .i64 r.2]) ∧ ItsA w'.heap.size w' v r.1 ∧ Below w.heap.size w w'
set_option maxRecDepth 100000 in
set_option maxHeartbeats 16000000 in
theorem itemExpand_any (fs : List Fld) (hS : ∀ f ∈ fs, 0 ≤ f.sz ∧ f.sz ≤ 8) (hF : fs.length ≤ 10000) (l : List It) (v cv : Value) (w : World) (hx : ItsA w.heap.size w v l) (hc : ClA w.heap.size w cv fs) (hsz : iszs l ≤ 10000) (hrs : RsL l) (hsm : SmE l) (ht : TabI w) :
    Calls Tryz.prog 22 #[v, cv] w (tLE (expS fs l) w) := by
  have hS1 : ∀ f ∈ fs, 0 ≤ f.sz ∧ f.sz ≤ 100 := (fun f hf => ⟨(hS f hf).1, by have := (hS f hf).2; omega⟩); have KC : Hid (∀ W, Below w.heap.size w W → Calls Tryz.prog 20 #[v, cv] W (tInt (checkI fs l) W)) := (Lib.hid fun W hW => itemCheck_any l fs hS1 hF v cv W ((hx.under hW).wide hW.size) ((hc.under hW).wide hW.size) hsz hrs (ht.later hW)); have FC : Hid (∀ W, Below w.heap.size w W → Calls Tryz.prog 43 #[cv] W fun e w' => ∃ fb n, e = .returned (.map (some fb)) ∧ W.heap.size ≤ fb ∧ FMap w' fb n fs ∧ Below W.heap.size W w') := (Lib.hid fun W hW => fieldsOf_any fs hS1 hF cv W ((hc.under hW).wide hW.size)); have XC : Hid (∀ W fb, Below w.heap.size w W → FsA W fb fs → checkI fs l = 0 → Calls Tryz.prog 46 #[.map (some fb), v] W (tLB (exdS fs l).1 (exdS fs l).2 W)) := Lib.hid fun W fb hW hf hk => by
    have hv : validI l = 0 := by
      unfold checkI at hk; split at hk
      · assumption
      · exact hk
    exact expanded_any fb fs hS l v W (dpt_valid hv) hsz hsm hf ((hx.under hW).wide hW.size)
  have hxs : checkI fs l = 0 → ∀ x ∈ exL fs none (fun a => a) l, sz x.e ≤ 10000 := fun hk => by
    have hv : validI l = 0 := by
      unfold checkI at hk; split at hk
      · assumption
      · exact hk
    exact exL_sz fs l 5 none (fun a => a) (dpt_valid hv) (by decide) hsm (fun _ => Nat.le_refl _) (fun c hc => by cases hc)
  have LC : Hid (∀ W u, Below w.heap.size w W → checkI fs l = 0 → ItsA W.heap.size W u (exL fs none (fun a => a) l) → Calls Tryz.prog 47 #[u, .func (.func 48) #[] #[]] W (tBool ((exL fs none (fun a => a) l).any largeB) W)) := Lib.hid fun W u hW hk hu =>
    large_has _ largeB u W.heap.size W hu (Nat.le_refl _) fun x hx W' a4 a7 a8 a9 a10 a11 hW' hv => large_one x a4 a7 a8 a9 a10 a11 W.heap.size W' hv hW'.size (hxs hk x hx) (ht.later (hW.then_ hW')).tab
  have HT := Lib.hid ht; have EE : Hid (expS fs l = if checkI fs l = 0 then (if 400 < cntL fs l then ([], 2) else if (exL fs none (fun a => a) l).any largeB = true then ([], 2) else (exL fs none (fun a => a) l, 0)) else ([], checkI fs l)) := Lib.hid rfl; have ED : Hid (exdS fs l = if 400 < cntL fs l then ([], false) else (exL fs none (fun a => a) l, true)) := Lib.hid rfl; obtain ⟨p, cap, V, rfl, hri⟩ := hx.form; obtain ⟨cnm, par, vf, pb, kb, cb, rfl, pf, cf, rfl, _⟩ := hc; have B3 := Blk.new w [.string cnm, .string par, .slice pf fs.length cf, .slice pb kb cb] 34; have hb0 := ba w (.cells #[.string cnm, .string par, .slice pf fs.length cf, .slice pb kb cb] 34); have a0 := B3.c 0 _ rfl; have a1 := B3.c 1 _ rfl; have a2 := B3.c 2 _ rfl; have a3 := B3.c 3 _ rfl; have HB := Lib.hid hb0; have H3 := Lib.hid B3; clear hri hxs B3 hb0 ht hS hS1 hsm hrs hsz hx hF; generalize fs.length = KF at *
  generalize l.length = K at *
  generalize expS fs l = R at *
  by_cases h0 : checkI fs l = 0
  · have HK0 := Lib.hid h0; rw [if_pos h0] at EE; rw [h0] at KC; clear h0; by_cases h4 : 400 < cntL fs l
    · rw [if_pos h4] at EE; have HD : Hid (exdS fs l = ([], false)) := Lib.hid (by rw [ED.out, if_pos h4]); have XC2 : Hid (∀ W fb, Below w.heap.size w W → FsA W fb fs → Calls Tryz.prog 46 #[.map (some fb), .slice p K cap] W (tLB [] false W)) := Lib.hid fun W fb hW hf => by
        have := XC.out W fb hW hf HK0.out; rw [HD.out] at this; exact this
      clear XC LC HD ED h4
      go_enter Tryz.func22, Tryz.ntmps22
      go_wp2_with (first
        | (go_at_call 20; ((with_reducible refine (KC.out _ HB.out).mono ?_); rintro e w1 ⟨rfl, hb⟩; have HB1 := Lib.hid (HB.out.then_ hb); have G3 := H3.out.stay hb; clear a0 a1 a2 a3; have a0 := G3.c 0 _ rfl; have a1 := G3.c 1 _ rfl; have a2 := G3.c 2 _ rfl; have a3 := G3.c 3 _ rfl; clear hb G3))
        | (go_at_call 43; ((with_reducible refine (FC.out _ HB1.out).mono ?_); rintro e w2 ⟨fb, fn, rfl, hfb, hfm, hb⟩; have HB2 := Lib.hid (HB1.out.then_ hb); have HFA := Lib.hid (FsA.mk ⟨_, hfm⟩ (HT.out.later (HB1.out.then_ hb))); clear hb hfm))
        | (go_at_call 46; ((with_reducible refine (XC2.out _ fb HB2.out HFA.out).mono ?_); rintro e w3 ⟨u, rfl, hu, hb⟩; have HB3 := Lib.hid (HB2.out.then_ hb); clear hb hu)))
      go_ret2; rw [EE.out]; exact ⟨_, rfl, ItsA.nil _ _ _ _, HB3.out⟩
    · rw [if_neg h4] at EE; have HD : Hid (exdS fs l = (exL fs none (fun a => a) l, true)) := Lib.hid (by rw [ED.out, if_neg h4]); have XC2 : Hid (∀ W fb, Below w.heap.size w W → FsA W fb fs → Calls Tryz.prog 46 #[.map (some fb), .slice p K cap] W (tLB (exL fs none (fun a => a) l) true W)) := Lib.hid fun W fb hW hf => by
        have := XC.out W fb hW hf HK0.out; rw [HD.out] at this; exact this
      have LC2 : Hid (∀ W u, Below w.heap.size w W → ItsA W.heap.size W u (exL fs none (fun a => a) l) → Calls Tryz.prog 47 #[u, .func (.func 48) #[] #[]] W (tBool ((exL fs none (fun a => a) l).any largeB) W)) := (Lib.hid fun W u h1 h2 => LC.out W u h1 HK0.out h2); clear XC LC HD ED h4; generalize exL fs none (fun a => a) l = X at *
      generalize X.any largeB = q at *
      cases q
      · rw [if_neg (by decide)] at EE
        go_enter Tryz.func22, Tryz.ntmps22
        go_wp2_with (first
          | (go_at_call 20; ((with_reducible refine (KC.out _ HB.out).mono ?_); rintro e w1 ⟨rfl, hb⟩; have HB1 := Lib.hid (HB.out.then_ hb); have G3 := H3.out.stay hb; clear a0 a1 a2 a3; have a0 := G3.c 0 _ rfl; have a1 := G3.c 1 _ rfl; have a2 := G3.c 2 _ rfl; have a3 := G3.c 3 _ rfl; clear hb G3))
          | (go_at_call 43; ((with_reducible refine (FC.out _ HB1.out).mono ?_); rintro e w2 ⟨fb, fn, rfl, hfb, hfm, hb⟩; have HB2 := Lib.hid (HB1.out.then_ hb); have HFA := Lib.hid (FsA.mk ⟨_, hfm⟩ (HT.out.later (HB1.out.then_ hb))); clear hb hfm))
          | (go_at_call 46; ((with_reducible refine (XC2.out _ fb HB2.out HFA.out).mono ?_); rintro e w3 ⟨u, rfl, hu, hb⟩; have HB3 := Lib.hid (HB2.out.then_ hb); have HU := Lib.hid hu; clear hb hu))
          | (go_at_call 47; ((with_reducible refine (LC2.out _ _ HB3.out HU.out).mono ?_); rintro e w4 ⟨rfl, hb⟩; have HB4 := Lib.hid (HB3.out.then_ hb); have HU4 := Lib.hid ((HU.out.under hb).wide hb.size); clear hb)))
        go_ret2; rw [EE.out]; exact ⟨_, rfl, HU4.out, HB4.out⟩
      · rw [if_pos rfl] at EE
        go_enter Tryz.func22, Tryz.ntmps22
        go_wp2_with (first
          | (go_at_call 20; ((with_reducible refine (KC.out _ HB.out).mono ?_); rintro e w1 ⟨rfl, hb⟩; have HB1 := Lib.hid (HB.out.then_ hb); have G3 := H3.out.stay hb; clear a0 a1 a2 a3; have a0 := G3.c 0 _ rfl; have a1 := G3.c 1 _ rfl; have a2 := G3.c 2 _ rfl; have a3 := G3.c 3 _ rfl; clear hb G3))
          | (go_at_call 43; ((with_reducible refine (FC.out _ HB1.out).mono ?_); rintro e w2 ⟨fb, fn, rfl, hfb, hfm, hb⟩; have HB2 := Lib.hid (HB1.out.then_ hb); have HFA := Lib.hid (FsA.mk ⟨_, hfm⟩ (HT.out.later (HB1.out.then_ hb))); clear hb hfm))
          | (go_at_call 46; ((with_reducible refine (XC2.out _ fb HB2.out HFA.out).mono ?_); rintro e w3 ⟨u, rfl, hu, hb⟩; have HB3 := Lib.hid (HB2.out.then_ hb); have HU := Lib.hid hu; clear hb hu))
          | (go_at_call 47; ((with_reducible refine (LC2.out _ _ HB3.out HU.out).mono ?_); rintro e w4 ⟨rfl, hb⟩; have HB4 := Lib.hid (HB3.out.then_ hb); clear hb)))
        go_ret2; rw [EE.out]; exact ⟨_, rfl, ItsA.nil _ _ _ _, HB4.out⟩
  · rw [if_neg h0] at EE; generalize checkI fs l = E0 at *
    have f1 : (E0 == 0) = false := (by rw [beq_eq_false_iff_ne]; exact h0); have f2 : (E0 != 0) = true := (by rw [bne, f1]; rfl); clear h0 XC LC FC ED
    go_enter Tryz.func22, Tryz.ntmps22
    go_wp2_with (first
      | (go_at_call 20; ((with_reducible refine (KC.out _ HB.out).mono ?_); rintro e w1 ⟨rfl, hb⟩; have HB1 := Lib.hid (HB.out.then_ hb); clear hb)))
    go_ret2; rw [EE.out]; exact ⟨_, rfl, ItsA.nil _ _ _ _, HB1.out⟩
end Go.Proofs.YtpejflgdehioaaaGreatDoor.ItW
namespace Go.Proofs.YtpejflgdehioaaaGreatDoor.ItW
open Go Go.RowKit Go.Shelf Go.Proofs.YtpejflgdehioaaaGreatDoor.NumM Go.Proofs.YtpejflgdehioaaaGreatDoor.LexW Go.Proofs.YtpejflgdehioaaaGreatDoor.LexM Go.Proofs.YtpejflgdehioaaaGreatDoor.ExM Go.Proofs.YtpejflgdehioaaaGreatDoor.ExW Go.Proofs.YtpejflgdehioaaaGreatDoor.ItM
open Go.Proofs.YtpejflgdehioaaaGreatDoor.ClM (Fld)
theorem elm_sz (a : ByteArray) (k : Nat) (ha : a.size ≤ 100) : (elmN a k).size ≤ 103 := by
  have h : (elmN a k).size = a.size + 3 := by
    show ((a.data.toList ++ [91, UInt8.ofNat (48 + k), 93]).toArray).size = a.size + 3; simp
  omega
set_option maxRecDepth 100000 in
set_option maxHeartbeats 4000000 in
theorem variable_any (a : ByteArray) (k : Nat) (hk : k < 10) (ha : a.size ≤ 100) (w : World) :
    Calls Tryz.prog 150 #[.string a, .int .i64 k] w fun e w' => e = .returned (xv 2 0 (elmN a k) (.slice none 0 0)) ∧ Below w.heap.size w w' := by
  have IC := (fun W => Tryz.strconv_Itoa_small k (by omega) W); rw [Lib.decDigits_one hk] at IC; have HC := Lib.hid (elm_cat a ⟨#[UInt8.ofNat (48 + k)]⟩ k rfl); have IC := Lib.hid IC; obtain ⟨d, hd⟩ : ∃ d : ByteArray, (⟨#[UInt8.ofNat (48 + k)]⟩ : ByteArray) = d := ⟨_, rfl⟩; have hds : d.size = 1 := (by rw [← hd]; rfl); rw [hd] at HC; have hd' : (⟨[UInt8.ofNat (48 + k)].toArray⟩ : ByteArray) = d := hd; rw [hd'] at IC; have hds2 : d.size ≤ 1 := (by omega); clear hd hd' hds; obtain ⟨x, hx⟩ : ∃ x, elmN a k = x := ⟨_, rfl⟩; rw [hx] at HC ⊢; clear hx
  go_enter Tryz.func150, Tryz.ntmps150
  go_wp2_with (first
    | (go_at_call 176; ((with_reducible refine (IC.out _).mono ?_); rintro e w1 ⟨rfl, hw⟩; subst hw)))
  rw [HC.out]; refine bodyPost_ret (v := xv 2 0 x (.slice none 0 0)) (by simp [results, Tryz.results150, go_sem]) rfl ?_; exact ⟨rfl, by repeat' (first | exact Below.refl _ _ | (refine Below.alloc ?_ (by simp) _) | (refine Below.setCell (p := ⟨_, _, _⟩) ?_ (by simp) _))⟩
theorem szI_bound (fs : List Fld) (hS : ∀ f ∈ fs, 0 ≤ f.sz ∧ f.sz ≤ 8) (s : ByteArray) : 0 ≤ szI fs s ∧ szI fs s ≤ 8 := cntL_bound fs hS s
theorem length_any (fb : Nat) (fs : List Fld) (hS : ∀ f ∈ fs, 0 ≤ f.sz ∧ f.sz ≤ 8) (s : ByteArray) (w : World) (hf : FsA w fb fs) (hs : s.size ≤ 140737488351232) :
    Calls Tryz.prog 152 #[.map (some fb), .string s] w fun e w' => e = .returned (.int .i64 (szI fs s)) ∧ w = w' := by
  have hlk := hf.look s hs; have hb := szI_bound fs hS s; clear hf hs hS; generalize szI fs s = z at *
  have hmin : min z 9 = z := by omega
  go_enter Tryz.func152, Tryz.ntmps152
  go_wp2; go_ret; exact ⟨rfl, rfl⟩
theorem elV_fr (lo : Nat) (w : World) (a : ByteArray) (k : Nat) (ha : a.size ≤ 100) : Fr lo w (xv 2 0 (elmN a k) (.slice none 0 0)) (elV a k) :=
  fr_nil (by have := elm_sz a k ha; omega)
def BoxE (b : Nat) (e : Ex) (W : World) : Prop := ∃ p c, Four W b (.int .i64 e.op) (.int .i64 e.n) (.string e.nm) (.slice p e.args.length c) ∧ Fr (b + 1) W (xv e.op e.n e.nm (.slice p e.args.length c)) e
theorem BoxE.push {b : Nat} {T : Ex} {w5 : World} {p5 : Option Addr} {c5 : Nat} {N : ByteArray} (hf : Four w5 b (.int .i64 T.op) (.int .i64 T.n) (.string T.nm) (.slice p5 T.args.length c5)) (hx : Fr (b + 1) w5 (xv T.op T.n T.nm (.slice p5 T.args.length c5)) T) (hu : ∀ lo W, Fr lo W (xv 2 0 N (.slice none 0 0)) (.mk 2 0 N [])) (op : Int) :
    BoxE b (.mk op 0 ⟨#[]⟩ [T, .mk 2 0 N []]) (((((w5.setCell ⟨b, 0, none⟩ (.int .i64 op)).setCell ⟨b, 1, none⟩ (.int .i64 0)).setCell ⟨b, 2, none⟩ (.string ⟨#[]⟩)).setCell ⟨b, 3, none⟩ (.slice (some ⟨w5.heap.size, 0, none⟩) 2 2)).alloc (.cells #[.int .i64 T.op, .int .i64 T.n, .string T.nm, .slice p5 T.args.length c5, .int .i64 2, .int .i64 0, .string N, .slice none 0 0] 43)) := by
  have hlt := hf.lt; have h4 := hf.put (.int .i64 op) (.int .i64 0) (.string ⟨#[]⟩) (.slice (some ⟨w5.heap.size, 0, none⟩) 2 2); have hx4 := fr_put4 (g := b) hx (.int .i64 op) (.int .i64 0) (.string ⟨#[]⟩) (.slice (some ⟨w5.heap.size, 0, none⟩) 2 2); have hz : ((((w5.setCell ⟨b, 0, none⟩ (.int .i64 op)).setCell ⟨b, 1, none⟩ (.int .i64 0)).setCell ⟨b, 2, none⟩ (.string ⟨#[]⟩)).setCell ⟨b, 3, none⟩ (.slice (some ⟨w5.heap.size, 0, none⟩) 2 2)).heap.size = w5.heap.size := (by simp only [setCell_size]); obtain ⟨V, hV⟩ : ∃ V, ((((w5.setCell ⟨b, 0, none⟩ (.int .i64 op)).setCell ⟨b, 1, none⟩ (.int .i64 0)).setCell ⟨b, 2, none⟩ (.string ⟨#[]⟩)).setCell ⟨b, 3, none⟩ (.slice (some ⟨w5.heap.size, 0, none⟩) 2 2)) = V := ⟨_, rfl⟩; rw [hV] at h4 hx4 hz ⊢; have hb8 := ba V (.cells #[.int .i64 T.op, .int .i64 T.n, .string T.nm, .slice p5 T.args.length c5, .int .i64 2, .int .i64 0, .string N, .slice none 0 0] 43); have B8 := Blk.at_ hz [.int .i64 T.op, .int .i64 T.n, .string T.nm, .slice p5 T.args.length c5, .int .i64 2, .int .i64 0, .string N, .slice none 0 0] 43; refine ⟨some ⟨w5.heap.size, 0, none⟩, 2, h4.stay hb8, ?_⟩; exact two_args (T := fun k => b + 1 ≤ k ∧ k < _) (e := .mk 2 0 N []) ⟨by omega, B8.lt⟩ B8 (hx4.later hb8) (hu _ _)
theorem sumE_step (a : ByteArray) (k : Nat) (hk : 1 ≤ k) : sumE a k = .mk 7 0 ⟨#[]⟩ [sumE a (k - 1), elV a k] := by
  obtain ⟨m, rfl⟩ : ∃ m, k = m + 1 := ⟨k - 1, by omega⟩; rfl
set_option maxRecDepth 100000 in
set_option maxHeartbeats 16000000 in
theorem sumE_any (fb : Nat) (fs : List Fld) (hS : ∀ f ∈ fs, 0 ≤ f.sz ∧ f.sz ≤ 8) (a : ByteArray) (ha : a.size ≤ 100) (w : World) (hf : FsA w fb fs) (h1 : 1 ≤ szI fs a) :
    Calls Tryz.prog 101 #[.map (some fb), .string a] w (tFr (sumE a ((szI fs a).toNat - 1)) w) := by
  have h8 := szI_bound fs hS a; have HLN : Hid (∀ W, Below w.heap.size w W → Calls Tryz.prog 152 #[.map (some fb), .string a] W fun e w' => e = .returned (.int .i64 (szI fs a)) ∧ W = w') := (Lib.hid fun W hW => length_any fb fs hS a W (hf.later hW) (by omega)); have VC : Hid (∀ (k : Nat) W, k < 10 → Calls Tryz.prog 150 #[.string a, .int .i64 k] W fun e w' => e = .returned (xv 2 0 (elmN a k) (.slice none 0 0)) ∧ Below W.heap.size W w') := (Lib.hid fun k W hk => variable_any a k hk ha W); obtain ⟨n, hn⟩ : ∃ n : Nat, szI fs a = n := ⟨(szI fs a).toNat, by omega⟩; rw [hn] at HLN h8 h1 ⊢; rw [show ((n : Int)).toNat - 1 = n - 1 by omega]; have HA := Lib.hid ha; have hn1 : 1 ≤ n := (by omega); have hn8 : n ≤ 8 := (by omega); have V0 : Hid (∀ W, Calls Tryz.prog 150 #[.string a, .int .i64 0] W fun e w' => e = .returned (xv 2 0 (elmN a 0) (.slice none 0 0)) ∧ Below W.heap.size W w') := (Lib.hid fun W => VC.out 0 W (by omega)); have hbR := ba w (.cells #[.int .i64 0, .int .i64 0, .string ⟨#[]⟩, .slice none 0 0] 43); have FR := Four.new w (.int .i64 0) (.int .i64 0) (.string ⟨#[]⟩) (.slice none 0 0) 43; have HBR := Lib.hid hbR; have HFR := Lib.hid FR; clear hbR FR hf hn h8 h1 hS
  go_enter Tryz.func101, Tryz.ntmps101
  go_wp2_with (first
    | (go_at_call 150; ((with_reducible refine (V0.out _).mono ?_); rintro e w2 ⟨rfl, hb⟩; have HB2 := Lib.hid (HBR.out.then_ hb); have HF2 := Lib.hid (HFR.out.stay hb); clear hb)))
  have hbT := ba w2 (.cells #[.int .i64 2, .int .i64 0, .string (elmN a 0), .slice none 0 0] 43); have FT := Four.new w2 (.int .i64 2) (.int .i64 0) (.string (elmN a 0)) (.slice none 0 0) 43; have h2z := HB2.out.size; have hzT := World.size_alloc w2 (.cells #[.int .i64 2, .int .i64 0, .string (elmN a 0), .slice none 0 0] 43); have HFT := Lib.hid (HF2.out.stay hbT); have HBT := Lib.hid (HB2.out.then_ hbT); obtain ⟨wt, hwt⟩ : ∃ wt, w2.alloc (.cells #[.int .i64 2, .int .i64 0, .string (elmN a 0), .slice none 0 0] 43) = wt := ⟨_, rfl⟩; rw [hwt] at hbT FT HFT HBT hzT ⊢; have BT : Hid (BoxE w2.heap.size (sumE a (1 - 1)) wt) := Lib.hid ⟨none, 0, FT, elV_fr _ _ a 0 HA.out⟩; have h2r := HFR.out.lt; rw [World.size_alloc] at h2r; have hgr : w.heap.size < w2.heap.size := HF2.out.lt; clear hwt hbT FT HB2 HF2 HBR HFR h2r; go_loopw [6] (fun i wr => ∃ k : Nat, 1 ≤ k ∧ k ≤ n ∧ i = .int .i64 k ∧ Hid (BoxE w2.heap.size (sumE a (k - 1)) wr) ∧ Hid (Four wr w.heap.size (.int .i64 0) (.int .i64 0) (.string ⟨#[]⟩) (.slice none 0 0)) ∧ Hid (Below w.heap.size w wr)) (fun i _ => n - (intOf i).toNat)
  case atStart => exact ⟨1, Nat.le_refl _, hn1, rfl, BT, HFT, HBT⟩
  case round =>
    obtain ⟨k, hk1, hkn, rfl, BX, FX, BW⟩ := hrel; have LC := Lib.hid (HLN.out _ BW.out); obtain ⟨p5, c5, f5, x5⟩ := BX.out; have m0 := f5.c0; have m1 := f5.c1; have m2 := f5.c2; have m3 := f5.c3; by_cases hlt : k < n
    · have VK := Lib.hid (fun W => VC.out k W (by omega)); have ST := Lib.hid (sumE_step a k hk1); have HF5 := Lib.hid f5; have HX5 := Lib.hid x5; have EV := Lib.hid (fun lo W => elV_fr lo W a k HA.out); have hEVd : elV a k = .mk 2 0 (elmN a k) [] := rfl; rw [hEVd] at ST EV; clear f5 x5 BX hEVd; generalize sumE a (k - 1) = T at *
      generalize elmN a k = N at *
      go_wp2_with (first
        | (go_at_call 152; ((with_reducible refine LC.out.mono ?_); rintro e w4 ⟨rfl, rfl⟩)))
      go_region_with (go_at_call 150; refine (VK.out _).mono ?_; rintro e w5 ⟨rfl, hb⟩; have HB5 : Hid (Below wr.heap.size wr w5) := Lib.hid (by first | exact hb | exact (Below.refl _ _).drew.trans hb); have f5 := HF5.out.stay HB5.out; have hl5 := f5.lt; have e0 := f5.c0; have e1 := f5.c1; have e2 := f5.c2; have e3 := f5.c3; have z0 := f5.f0; have z1 := f5.f1; have z2 := f5.f2; have z3 := f5.f3; have G5 := Lib.hid f5; clear hb f5)
      all_goals
        have hz5 := HB5.out.size; go_wp2; go_roundw
        case rel => exact ⟨k + 1, by omega, by omega, by go_num, Lib.hid (by rw [show k + 1 - 1 = k by omega, ST.out]; exact BoxE.push G5.out (HX5.out.later HB5.out) EV.out 7), Lib.hid (((((FX.out.stay HB5.out).far (by omega)).far (by omega)).far (by omega)).far (by omega) |>.stay (ba _ _)), Lib.hid ((below_put (BW.out.then_ HB5.out) (by omega) _ _ _ _).then_ (ba _ _))⟩
        case measure => simp [intOf]; omega
    · have hkn2 : k = n := (by omega); have HX5 := Lib.hid x5; have r0 := FX.out.c0; have r1 := FX.out.c1; have r2 := FX.out.c2; have r3 := FX.out.c3; have s0 := FX.out.f0; have s1 := FX.out.f1; have s2 := FX.out.f2; have s3 := FX.out.f3; have HFN : Hid (sumE a (k - 1) = sumE a (n - 1)) := Lib.hid (by rw [hkn2]); clear f5 x5 BX hkn2; generalize sumE a (k - 1) = T at *
      go_wp2_with (first
        | (go_at_call 152; ((with_reducible refine LC.out.mono ?_); rintro e w4 ⟨rfl, rfl⟩)))
      have hp := FX.out.put (.int .i64 T.op) (.int .i64 T.n) (.string T.nm) (.slice p5 T.args.length c5); have p0 := hp.c0; have p1 := hp.c1; have p2 := hp.c2; have p3 := hp.c3; refine bodyPost_ret (v := xv T.op T.n T.nm (.slice p5 T.args.length c5)) (by simp [results, Tryz.results101, go_sem, p0, p1, p2, p3]) rfl ?_; rw [← HFN.out]; exact ⟨_, rfl, (((((HX5.out.low (lo' := w.heap.size + 1) (by omega)).set (by omega)).set (by omega)).set (by omega)).set (by omega)).low (by omega), below_put BW.out (Nat.le_refl _) _ _ _ _⟩
theorem three_args {T : Nat → Prop} {W : World} {g : Nat} {op : Int} {x y z : Ex} {p1 p2 p3 : Option Addr} {c1 c2 c3 : Nat} (hT : T g)
    (hB : Blk W g [.int .i64 x.op, .int .i64 x.n, .string x.nm, .slice p1 x.args.length c1, .int .i64 y.op, .int .i64 y.n, .string y.nm, .slice p2 y.args.length c2, .int .i64 z.op, .int .i64 z.n, .string z.nm, .slice p3 z.args.length c3])
    (h1 : ExS T W (xv x.op x.n x.nm (.slice p1 x.args.length c1)) x) (h2 : ExS T W (xv y.op y.n y.nm (.slice p2 y.args.length c2)) y) (h3 : ExS T W (xv z.op z.n z.nm (.slice p3 z.args.length c3)) z) :
    ExS T W (xv op 0 ⟨#[]⟩ (.slice (some ⟨g, 0, none⟩) 3 3)) (.mk op 0 ⟨#[]⟩ [x, y, z]) := by
  refine ExS.mk (ks := [x, y, z]) (fun i => if i = 0 then p1 else if i = 1 then p2 else p3) (fun i => if i = 0 then c1 else if i = 1 then c2 else c3) (by decide) (by simp) (by simp) (fun _ => ⟨g, 0, rfl, hT, fun i a ha => ?_⟩) (fun i a ha => ?_)
  · rcases i with _ | _ | _ | i
    · obtain rfl : x = a := (by simpa using ha); exact ⟨hB.c 0 _ rfl, hB.c 1 _ rfl, hB.c 2 _ rfl, hB.c 3 _ rfl⟩
    · obtain rfl : y = a := (by simpa using ha); exact ⟨hB.c 4 _ rfl, hB.c 5 _ rfl, hB.c 6 _ rfl, hB.c 7 _ rfl⟩
    · obtain rfl : z = a := (by simpa using ha); exact ⟨hB.c 8 _ rfl, hB.c 9 _ rfl, hB.c 10 _ rfl, hB.c 11 _ rfl⟩
    · simp at ha
  · rcases i with _ | _ | _ | i
    · obtain rfl : x = a := (by simpa using ha); exact h1
    · obtain rfl : y = a := (by simpa using ha); exact h2
    · obtain rfl : z = a := (by simpa using ha); exact h3
    · simp at ha
theorem cst_fr (lo : Nat) (w : World) (k : Int) : Fr lo w (xv 1 k ⟨#[]⟩ (.slice none 0 0)) (cst k) := fr_nil (by decide)
structure RC (w : World) (b9 : Nat) (c6 c9 : List Value) (V : World) : Prop where
  h6 : Blk V w.heap.size c6
  rm : Room4 V (w.heap.size + 1)
  h9 : Blk V b9 c9
  n9 : w.heap.size + 2 ≤ b9
  lo : Below w.heap.size w V
theorem RC.stay {w V V' : World} {b9 : Nat} {c6 c9 : List Value} (h : RC w b9 c6 c9 V) (hb : Below V.heap.size V V') : RC w b9 c6 c9 V' :=
  ⟨h.h6.stay hb, h.rm.stay hb, h.h9.stay hb, h.n9, h.lo.trans (hb.mono h.lo.size)⟩
theorem RC.put {w V : World} {b9 i : Nat} {x : Value} {c6 c9 : List Value} (h : RC w b9 c6 c9 V) : RC w b9 c6 c9 (V.setCell ⟨w.heap.size + 1, i, none⟩ x) :=
  ⟨h.h6.far (by omega), h.rm.put, h.h9.far (by have := h.n9; omega), h.n9, h.lo.setCell (p := ⟨w.heap.size + 1, i, none⟩) (by show w.heap.size ≤ w.heap.size + 1; omega) _⟩
abbrev SC (w : World) (b9 b6 : Nat) (o n : Int) (s : ByteArray) (x : Value) (V : World) : Prop :=
  V.cell? ⟨w.heap.size, 0, none⟩ = some (.int .i64 o) ∧ V.cell? ⟨w.heap.size, 1, none⟩ = some (.int .i64 n) ∧ V.cell? ⟨w.heap.size, 2, none⟩ = some (.string s) ∧ V.cell? ⟨w.heap.size, 3, none⟩ = some x ∧
    V.cell? ⟨b9, 0, none⟩ = some (.int .i64 15) ∧ V.cell? ⟨b9, 1, none⟩ = some (.int .i64 0) ∧ V.cell? ⟨b9, 2, none⟩ = some (.string ⟨#[]⟩) ∧ V.cell? ⟨b9, 3, none⟩ = some (.slice (some ⟨b6, 0, none⟩) 2 2) ∧
    RC w b9 [.int .i64 o, .int .i64 n, .string s, x] [.int .i64 15, .int .i64 0, .string ⟨#[]⟩, .slice (some ⟨b6, 0, none⟩) 2 2] V
theorem SC.r {w : World} {b9 b6 : Nat} {o n : Int} {s : ByteArray} {x : Value} {V : World} (h : SC w b9 b6 o n s x V) : RC w b9 [.int .i64 o, .int .i64 n, .string s, x] [.int .i64 15, .int .i64 0, .string ⟨#[]⟩, .slice (some ⟨b6, 0, none⟩) 2 2] V := h.2.2.2.2.2.2.2.2
theorem SC.of {w : World} {b9 b6 : Nat} {o n : Int} {s : ByteArray} {x : Value} {V : World} (h : RC w b9 [.int .i64 o, .int .i64 n, .string s, x] [.int .i64 15, .int .i64 0, .string ⟨#[]⟩, .slice (some ⟨b6, 0, none⟩) 2 2] V) : SC w b9 b6 o n s x V :=
  ⟨h.h6.c 0 _ rfl, h.h6.c 1 _ rfl, h.h6.c 2 _ rfl, h.h6.c 3 _ rfl, h.h9.c 0 _ rfl, h.h9.c 1 _ rfl, h.h9.c 2 _ rfl, h.h9.c 3 _ rfl, h⟩
set_option maxRecDepth 100000 in
set_option maxHeartbeats 16000000 in
theorem choice_any (fb : Nat) (fs : List Fld) (hS : ∀ f ∈ fs, 0 ≤ f.sz ∧ f.sz ≤ 8) (a : ByteArray) (ha : a.size ≤ 100) (n : Nat) (hn : szI fs a = n) (i : Ex) (hsz : sz i ≤ 10000) (N : Nat) : ∀ (m k : Nat) (vi : Value) (w : World), k + m = n → FsA w fb fs → ExAt N w vi i → N ≤ w.heap.size →
    Calls Tryz.prog 151 #[.map (some fb), .string a, vi, .int .i64 k] w (tFr (choE a i k m) w) := by
  have h8 := szI_bound fs hS a; rw [hn] at h8; have hn8 : n ≤ 8 := (by omega); have LEN : Hid (∀ W, FsA W fb fs → Calls Tryz.prog 152 #[.map (some fb), .string a] W fun e w' => e = .returned (.int .i64 n) ∧ W = w') := (Lib.hid fun W hW => hn ▸ length_any fb fs hS a W hW (by omega)); have HA := Lib.hid ha; clear h8 hn; intro m; induction m with
  | zero =>
    intro k vi w hk hf hx hN; obtain ⟨p, cap, pl, cl, rfl, hs, _⟩ := hx.form; obtain rfl : k = n := (by omega); have F0 := Four.new w (.int .i64 i.op) (.int .i64 i.n) (.string i.nm) (.slice p i.args.length cap) 43; have hb1 := ba w (.cells #[.int .i64 i.op, .int .i64 i.n, .string i.nm, .slice p i.args.length cap] 43); have hb2 := hb1.then_ (ba _ (.cells #[.int .i64 0, .int .i64 0, .string ⟨#[]⟩, .slice none 0 0] 43)); have F1 := Four.new (w.alloc (.cells #[.int .i64 i.op, .int .i64 i.n, .string i.nm, .slice p i.args.length cap] 43)) (.int .i64 0) (.int .i64 0) (.string ⟨#[]⟩) (.slice none 0 0) 43; rw [World.size_alloc] at F1; obtain ⟨W0, hW0⟩ : ∃ W0, (w.alloc (.cells #[.int .i64 i.op, .int .i64 i.n, .string i.nm, .slice p i.args.length cap] 43)).alloc (.cells #[.int .i64 0, .int .i64 0, .string ⟨#[]⟩, .slice none 0 0] 43) = W0 := ⟨_, rfl⟩; have LC := Lib.hid (LEN.out W0 (by rw [← hW0]; exact hf.later hb2)); have KC := Lib.hid (constant_any 0 W0); rw [hW0] at F1 hb2; have HB2 := Lib.hid hb2; have HF1 := Lib.hid F1; clear F0 hb1 hb2 F1 hf hx hs
    go_enter Tryz.func151, Tryz.ntmps151
    go_wp2_with fail
    clear hW0; go_wp2_with (first
      | (go_at_call 152; ((with_reducible refine LC.out.mono ?_); rintro e w4 ⟨rfl, rfl⟩))
      | (go_at_call 135; ((with_reducible refine KC.out.mono ?_); rintro e w5 ⟨rfl, hb⟩; have f5 := HF1.out.stay hb; have e0 := f5.c0; have e1 := f5.c1; have e2 := f5.c2; have e3 := f5.c3; have z0 := f5.f0; have z1 := f5.f1; have z2 := f5.f2; have z3 := f5.f3; have G5 := Lib.hid f5; have HB5 := Lib.hid (HB2.out.then_ hb); clear hb f5)))
    have hp := G5.out.put (.int .i64 1) (.int .i64 0) (.string ⟨#[]⟩) (.slice none 0 0); have p0 := hp.c0; have p1 := hp.c1; have p2 := hp.c2; have p3 := hp.c3; refine bodyPost_ret (v := xv 1 0 ⟨#[]⟩ (.slice none 0 0)) (by simp [results, Tryz.results151, go_sem, p0, p1, p2, p3]) rfl ?_; exact ⟨_, rfl, cst_fr _ _ 0, below_put HB5.out (by omega) _ _ _ _⟩
  | succ m ih =>
    intro k vi w hk hf hx hN; obtain ⟨p, cap, pl, cl, rfl, hs, _⟩ := hx.form; have hkn : ((k : Int) == (n : Int)) = false := (by rw [beq_eq_false_iff_ne]; omega); have hk8 : k ≤ 8 := (by omega); have hwr : IntKind.i64.wrap ((k : Int) + 1) = (k : Int) + 1 := IntWalk.i64_in _ (by omega); have F0 := Four.new w (.int .i64 i.op) (.int .i64 i.n) (.string i.nm) (.slice p i.args.length cap) 43; have B0 := Blk.new w [.int .i64 i.op, .int .i64 i.n, .string i.nm, .slice p i.args.length cap] 43; have hb1 := ba w (.cells #[.int .i64 i.op, .int .i64 i.n, .string i.nm, .slice p i.args.length cap] 43); have hbz := ba (w.alloc (.cells #[.int .i64 i.op, .int .i64 i.n, .string i.nm, .slice p i.args.length cap] 43)) (.cells #[.int .i64 0, .int .i64 0, .string ⟨#[]⟩, .slice none 0 0] 43); have hb2 := hb1.then_ hbz; have B1 := Blk.new (w.alloc (.cells #[.int .i64 i.op, .int .i64 i.n, .string i.nm, .slice p i.args.length cap] 43)) [.int .i64 0, .int .i64 0, .string ⟨#[]⟩, .slice none 0 0] 43; have hsz2 : ((w.alloc (.cells #[.int .i64 i.op, .int .i64 i.n, .string i.nm, .slice p i.args.length cap] 43)).alloc (.cells #[.int .i64 0, .int .i64 0, .string ⟨#[]⟩, .slice none 0 0] 43)).heap.size = w.heap.size + 1 + 1 := (by rw [World.size_alloc, World.size_alloc]); rw [World.size_alloc] at B1; have B0 := B0.stay hbz; obtain ⟨W0, hW0⟩ : ∃ W0, (w.alloc (.cells #[.int .i64 i.op, .int .i64 i.n, .string i.nm, .slice p i.args.length cap] 43)).alloc (.cells #[.int .i64 0, .int .i64 0, .string ⟨#[]⟩, .slice none 0 0] 43) = W0 := ⟨_, rfl⟩; have LC := Lib.hid (LEN.out W0 (by rw [← hW0]; exact hf.later hb2)); simp only [List.toArray] at B0 B1; rw [hW0] at B0 B1 hb2 hsz2; have hxi : ∀ V, Below w.heap.size w V → ExAt N V (xv i.op i.n i.nm (.slice p i.args.length cap)) i := (fun V hV => hx.under (hV.mono hN)); have HXI := Lib.hid hxi; have CL := Lib.hid (cloneI_any i N W0 _ (hxi W0 hb2) (by omega) hsz); have KC : Hid (∀ W, Calls Tryz.prog 135 #[.int .i64 k] W fun e w' => e = .returned (xv 1 k ⟨#[]⟩ (.slice none 0 0)) ∧ Below W.heap.size W w') := (Lib.hid fun W => constant_any k W); have VC : Hid (∀ W, Calls Tryz.prog 150 #[.string a, .int .i64 k] W fun e w' => e = .returned (xv 2 0 (elmN a k) (.slice none 0 0)) ∧ Below W.heap.size W w') := (Lib.hid fun W => variable_any a k (by omega) HA.out W); have CH : Hid (∀ V, Below w.heap.size w V → Calls Tryz.prog 151 #[.map (some fb), .string a, xv i.op i.n i.nm (.slice p i.args.length cap), .int .i64 ((k : Int) + 1)] V (tFr (choE a i (k + 1) m) V)) := (Lib.hid fun V hV => ih (k + 1) _ V (by omega) (hf.later hV) (hxi V hV) (by have := hV.size; omega)); have EV := Lib.hid (fun lo W => elV_fr lo W a k HA.out); have HB2 := Lib.hid hb2; have HB0 := Lib.hid B0; have HB1 := Lib.hid B1; have EE : Hid (choE a i k (m + 1) = .mk 22 0 ⟨#[]⟩ [.mk 15 0 ⟨#[]⟩ [i, cst k], elV a k, choE a i (k + 1) m]) := Lib.hid rfl; have hEVd : elV a k = .mk 2 0 (elmN a k) [] := rfl; rw [hEVd] at EE EV; have c0 := B0.c 0 _ rfl; have c1 := B0.c 1 _ rfl; have c2 := B0.c 2 _ rfl; have c3 := B0.c 3 _ rfl; clear F0 hb1 hbz hb2 B0 B1 hf hx hs hxi LEN hEVd ih; generalize choE a i (k + 1) m = C at *
    generalize choE a i k (m + 1) = R at *
    generalize elmN a k = M at *
    go_enter Tryz.func151, Tryz.ntmps151
    go_wp2_with fail
    clear hW0; go_wp2_with (first
      | (go_at_call 152; ((with_reducible refine LC.out.mono ?_); rintro e w4 ⟨rfl, rfl⟩))
      | (go_at_call 88; ((with_reducible refine CL.out.mono ?_); rintro e w5 ⟨v5, rfl, hfr5, hb5⟩; obtain ⟨p5, c5, rfl, h5s, h5c⟩ := hfr5.form; have HFR5 := Lib.hid hfr5; have HB5 := Lib.hid hb5; clear hb5 hfr5))
      | (go_at_call 135; ((with_reducible refine (KC.out _).mono ?_); rintro e w6 ⟨rfl, hb⟩; have HB6 := Lib.hid hb; clear hb)))
    have hs5 := HB5.out.size; have hs6 := HB6.out.size; have b8 := ba w6 (.cells #[.int .i64 i.op, .int .i64 i.n, .string i.nm, .slice p5 i.args.length c5, .int .i64 1, .int .i64 k, .string ⟨#[]⟩, .slice none 0 0] 43); have b9 := ba (w6.alloc (.cells #[.int .i64 i.op, .int .i64 i.n, .string i.nm, .slice p5 i.args.length c5, .int .i64 1, .int .i64 k, .string ⟨#[]⟩, .slice none 0 0] 43)) (.cells #[.int .i64 15, .int .i64 0, .string ⟨#[]⟩, .slice (some ⟨w6.heap.size, 0, none⟩) 2 2] 43); have B8 := (Blk.new w6 [.int .i64 i.op, .int .i64 i.n, .string i.nm, .slice p5 i.args.length c5, .int .i64 1, .int .i64 k, .string ⟨#[]⟩, .slice none 0 0] 43).stay b9; have B9 := Blk.new (w6.alloc (.cells #[.int .i64 i.op, .int .i64 i.n, .string i.nm, .slice p5 i.args.length c5, .int .i64 1, .int .i64 k, .string ⟨#[]⟩, .slice none 0 0] 43)) [.int .i64 15, .int .i64 0, .string ⟨#[]⟩, .slice (some ⟨w6.heap.size, 0, none⟩) 2 2] 43; have z8 := World.size_alloc w6 (.cells #[.int .i64 i.op, .int .i64 i.n, .string i.nm, .slice p5 i.args.length c5, .int .i64 1, .int .i64 k, .string ⟨#[]⟩, .slice none 0 0] 43); rw [z8] at B9; simp only [List.toArray] at B8 B9; have b69 := b8.then_ b9; obtain ⟨W7, hW7⟩ : ∃ W7, (w6.alloc (.cells #[.int .i64 i.op, .int .i64 i.n, .string i.nm, .slice p5 i.args.length c5, .int .i64 1, .int .i64 k, .string ⟨#[]⟩, .slice none 0 0] 43)).alloc (.cells #[.int .i64 15, .int .i64 0, .string ⟨#[]⟩, .slice (some ⟨w6.heap.size, 0, none⟩) 2 2] 43) = W7 := ⟨_, rfl⟩; rw [hW7] at B8 B9 b69 ⊢; clear hW7 b8 b9 z8 c0 c1 c2 c3; have b57 := HB6.out.then_ b69; have b07 := HB5.out.then_ b57; have FH : Fr (w.heap.size + 2) W7 (xv 15 0 ⟨#[]⟩ (.slice (some ⟨w6.heap.size, 0, none⟩) 2 2)) (.mk 15 0 ⟨#[]⟩ [i, cst k]) :=
      two_args (T := fun b => w.heap.size + 2 ≤ b ∧ b < W7.heap.size) (c := i) (e := cst k) ⟨by omega, B8.lt⟩ B8 ((HFR5.out.later b57).low (by omega)) (cst_fr _ _ _)
    have HFH := Lib.hid FH; have k0 := SC.of (w := w) (RC.mk (HB0.out.stay b07) (Room4.of (HB1.out.stay b07)) B9 (by omega) (HB2.out.then_ b07)); have EC : Hid (∀ V V', SC w (w6.heap.size + 1) w6.heap.size i.op i.n i.nm (.slice p i.args.length cap) V → Below V.heap.size V V' → SC w (w6.heap.size + 1) w6.heap.size i.op i.n i.nm (.slice p i.args.length cap) V') := (Lib.hid fun V V' h hb => SC.of (h.r.stay hb)); have EC2 : Hid (∀ V x0 x1 x2 x3, SC w (w6.heap.size + 1) w6.heap.size i.op i.n i.nm (.slice p i.args.length cap) V → SC w (w6.heap.size + 1) w6.heap.size i.op i.n i.nm (.slice p i.args.length cap) ((((V.setCell ⟨w.heap.size + 1, 0, none⟩ x0).setCell ⟨w.heap.size + 1, 1, none⟩ x1).setCell ⟨w.heap.size + 1, 2, none⟩ x2).setCell ⟨w.heap.size + 1, 3, none⟩ x3)) := (Lib.hid fun V x0 x1 x2 x3 h => SC.of h.r.put.put.put.put); have k1 := EC.out _ W7.drew k0 (Below.refl _ _).drew
    have KV : Hid (∀ V, SC w (w6.heap.size + 1) w6.heap.size i.op i.n i.nm (.slice p i.args.length cap) V → Calls Tryz.prog 150 #[.string a, .int .i64 k] V fun e w' => e = .returned (xv 2 0 M (.slice none 0 0)) ∧ SC w (w6.heap.size + 1) w6.heap.size i.op i.n i.nm (.slice p i.args.length cap) w' ∧ Hid (Below V.heap.size V w')) :=
      Lib.hid fun V h => (VC.out V).mono fun e w' ⟨h1, h2⟩ => ⟨h1, EC.out _ _ h h2, Lib.hid h2⟩
    have KH : Hid (∀ V, SC w (w6.heap.size + 1) w6.heap.size i.op i.n i.nm (.slice p i.args.length cap) V → Calls Tryz.prog 151 #[.map (some fb), .string a, xv i.op i.n i.nm (.slice p i.args.length cap), .int .i64 ((k : Int) + 1)] V fun e w' => ∃ q c, e = .returned (xv C.op C.n C.nm (.slice q C.args.length c)) ∧ SC w (w6.heap.size + 1) w6.heap.size i.op i.n i.nm (.slice p i.args.length cap) w' ∧ Hid (Fr (w.heap.size + 2) w' (xv C.op C.n C.nm (.slice q C.args.length c)) C) ∧ Hid (Below V.heap.size V w')) :=
      Lib.hid fun V h => (CH.out V h.r.lo).mono fun e w' ⟨v, h1, h2, h3⟩ => by
        obtain ⟨q, c, rfl, _⟩ := h2.form; exact ⟨q, c, h1, EC.out _ _ h h3, Lib.hid (h2.low (by have := h.r.rm.lt; omega)), Lib.hid h3⟩
    clear VC CH b57 b07 b69 B8 B9 FH HFR5 HB0 HB1 HB5 HB6 HB2 KC CL LC HXI; generalize i.op = o at *
    generalize i.n = nn at *
    generalize i.nm = s at *
    generalize i.args.length = K at *
    go_region_held3 (fun V => V.cell? ⟨w.heap.size, 0, none⟩ = some (.int .i64 o) ∧ V.cell? ⟨w.heap.size, 1, none⟩ = some (.int .i64 nn) ∧ V.cell? ⟨w.heap.size, 2, none⟩ = some (.string s) ∧ V.cell? ⟨w.heap.size, 3, none⟩ = some (.slice p K cap) ∧
      V.cell? ⟨w6.heap.size + 1, 0, none⟩ = some (.int .i64 15) ∧ V.cell? ⟨w6.heap.size + 1, 1, none⟩ = some (.int .i64 0) ∧ V.cell? ⟨w6.heap.size + 1, 2, none⟩ = some (.string ⟨#[]⟩) ∧ V.cell? ⟨w6.heap.size + 1, 3, none⟩ = some (.slice (some ⟨w6.heap.size, 0, none⟩) 2 2) ∧
      RC w (w6.heap.size + 1) [.int .i64 o, .int .i64 nn, .string s, .slice p K cap] [.int .i64 15, .int .i64 0, .string ⟨#[]⟩, .slice (some ⟨w6.heap.size, 0, none⟩) 2 2] V)
      (first | with_reducible assumption | (refine EC.out _ _ ?_ (ba _ _); with_reducible assumption) | (refine EC.out _ _ (EC2.out _ _ _ _ _ ?_) (ba _ _); with_reducible assumption) | (refine EC2.out _ _ _ _ _ (EC.out _ _ ?_ (ba _ _)); with_reducible assumption) | fail)
      (first
        | (go_at_call 150; (with_reducible refine (KV.out _ ?_).mono ?_); assumption; rintro x w8 ⟨rfl, hg8, hb8⟩)
        | (go_at_call 151; (with_reducible refine (KH.out _ ?_).mono ?_); assumption; rintro x w9 ⟨q9, c9, rfl, hg9, hf9, hb9⟩; have hl9 := hg9.r.rm.lt; obtain ⟨z0, z1, z2, z3, ⟨_, y0⟩, ⟨_, y1⟩, ⟨_, y2⟩, ⟨_, y3⟩⟩ := hg9.r.rm.facts))
    all_goals
      have hb79 : Below W7.heap.size W7 w9 := (Below.refl _ _).drew.trans (hb8.out.then_ hb9.out); have HP := hg9.r.rm.cells (.int .i64 22) (.int .i64 0) (.string ⟨#[]⟩) (.slice (some ⟨w9.heap.size, 0, none⟩) 3 3); have hl := ((hg9.r.put (i := 0) (x := .int .i64 22)).put (i := 1) (x := .int .i64 0)).put (i := 2) (x := .string ⟨#[]⟩); have hlo := (hl.put (i := 3) (x := .slice (some ⟨w9.heap.size, 0, none⟩) 3 3)).lo; have hfh := fr_put4 (g := w.heap.size + 1) (HFH.out.later hb79) (.int .i64 22) (.int .i64 0) (.string ⟨#[]⟩) (.slice (some ⟨w9.heap.size, 0, none⟩) 3 3); have hfc := fr_put4 (g := w.heap.size + 1) hf9.out (.int .i64 22) (.int .i64 0) (.string ⟨#[]⟩) (.slice (some ⟨w9.heap.size, 0, none⟩) 3 3); have hz : ((((w9.setCell ⟨w.heap.size + 1, 0, none⟩ (.int .i64 22)).setCell ⟨w.heap.size + 1, 1, none⟩ (.int .i64 0)).setCell ⟨w.heap.size + 1, 2, none⟩ (.string ⟨#[]⟩)).setCell ⟨w.heap.size + 1, 3, none⟩ (.slice (some ⟨w9.heap.size, 0, none⟩) 3 3)).heap.size = w9.heap.size := (by simp only [setCell_size]); clear hl; go_wp2; clear KV KH EC EC2 k0 k1 hg8 hg9 hf9 HFH hb79; obtain ⟨V, hV⟩ : ∃ V, ((((w9.setCell ⟨w.heap.size + 1, 0, none⟩ (.int .i64 22)).setCell ⟨w.heap.size + 1, 1, none⟩ (.int .i64 0)).setCell ⟨w.heap.size + 1, 2, none⟩ (.string ⟨#[]⟩)).setCell ⟨w.heap.size + 1, 3, none⟩ (.slice (some ⟨w9.heap.size, 0, none⟩) 3 3)) = V := ⟨_, rfl⟩; rw [hV] at HP hlo hfh hfc hz ⊢; clear hV; have bx := ba V (.cells #[.int .i64 15, .int .i64 0, .string ⟨#[]⟩, .slice (some ⟨w6.heap.size, 0, none⟩) 2 2, .int .i64 2, .int .i64 0, .string M, .slice none 0 0, .int .i64 C.op, .int .i64 C.n, .string C.nm, .slice q9 C.args.length c9] 43); have Bx := Blk.at_ hz [.int .i64 15, .int .i64 0, .string ⟨#[]⟩, .slice (some ⟨w6.heap.size, 0, none⟩) 2 2, .int .i64 2, .int .i64 0, .string M, .slice none 0 0, .int .i64 C.op, .int .i64 C.n, .string C.nm, .slice q9 C.args.length c9] 43; have hr := three_args (T := fun b => w.heap.size + 1 + 1 ≤ b ∧ b < _) (op := 22) (x := .mk 15 0 ⟨#[]⟩ [i, cst k]) (y := .mk 2 0 M []) (z := C) ⟨by omega, Bx.lt⟩ Bx (hfh.later bx) (EV.out _ _) (hfc.later bx); have hp := HP.stay bx; have p0 := hp.c 0 _ rfl; have p1 := hp.c 1 _ rfl; have p2 := hp.c 2 _ rfl; have p3 := hp.c 3 _ rfl; rw [EE.out]; exact bodyPost_ret (v := xv 22 0 ⟨#[]⟩ (.slice (some ⟨w9.heap.size, 0, none⟩) 3 3)) (by simp [results, Tryz.results151, go_sem, p0, p1, p2, p3]) rfl ⟨_, rfl, Fr.low hr (by omega), hlo.then_ bx⟩
set_option maxRecDepth 100000 in
set_option maxHeartbeats 16000000 in
theorem element_any (fb : Nat) (fs : List Fld) (hS : ∀ f ∈ fs, 0 ≤ f.sz ∧ f.sz ≤ 8) (a : ByteArray) (ha : a.size ≤ 100) (n : Nat) (hn : szI fs a = n) (i : Ex) (hsz : sz i ≤ 10000) (h0 : i.op = 1 → 0 ≤ i.n) (N : Nat) (vi : Value) (w : World) (hf : FsA w fb fs) (hx : ExAt N w vi i) (hN : N ≤ w.heap.size) :
    Calls Tryz.prog 100 #[.map (some fb), .string a, vi] w (tFr (elmE a n i) w) := by
  have h8 := szI_bound fs hS a; rw [hn] at h8; have hn8 : n ≤ 8 := (by omega); obtain ⟨p, cap, pl, cl, rfl, hs, _⟩ := hx.form; have hb1 := ba w (.cells #[.int .i64 i.op, .int .i64 i.n, .string i.nm, .slice p i.args.length cap] 43); have B0 := (Blk.new w [.int .i64 i.op, .int .i64 i.n, .string i.nm, .slice p i.args.length cap] 43).stay (ba _ (.cells #[.int .i64 0, .int .i64 0, .string ⟨#[]⟩, .slice none 0 0] 43)); have hb2 := hb1.then_ (ba _ (.cells #[.int .i64 0, .int .i64 0, .string ⟨#[]⟩, .slice none 0 0] 43)); have F1 := Four.new (w.alloc (.cells #[.int .i64 i.op, .int .i64 i.n, .string i.nm, .slice p i.args.length cap] 43)) (.int .i64 0) (.int .i64 0) (.string ⟨#[]⟩) (.slice none 0 0) 43; rw [World.size_alloc] at F1; have hlk := (fun (W : World) (hW : Below w.heap.size w W) => (hf.later hW).look a (by omega)); rw [hn] at hlk; have CH : Hid (∀ V, Below w.heap.size w V → Calls Tryz.prog 151 #[.map (some fb), .string a, xv i.op i.n i.nm (.slice p i.args.length cap), .int .i64 0] V (tFr (choE a i 0 n) V)) := (Lib.hid fun V hV => choice_any fb fs hS a ha n hn i hsz N n 0 _ V (by omega) (hf.later hV) (hx.under (hV.mono hN)) (by have := hV.size; omega)); have KC : Hid (∀ W, Calls Tryz.prog 135 #[.int .i64 0] W fun e w' => e = .returned (xv 1 0 ⟨#[]⟩ (.slice none 0 0)) ∧ Below W.heap.size W w') := (Lib.hid fun W => constant_any 0 W); have EE : Hid (elmE a n i = if i.op = 1 then (if i.n < n then elV a i.n.toNat else cst 0) else choE a i 0 n) := Lib.hid rfl; obtain ⟨W0, hW0⟩ : ∃ W0, (w.alloc (.cells #[.int .i64 i.op, .int .i64 i.n, .string i.nm, .slice p i.args.length cap] 43)).alloc (.cells #[.int .i64 0, .int .i64 0, .string ⟨#[]⟩, .slice none 0 0] 43) = W0 := ⟨_, rfl⟩; simp only [List.toArray] at B0; rw [hW0] at B0 F1 hb2; have hl0 := hlk W0 hb2; have c0 := B0.c 0 _ rfl; have c1 := B0.c 1 _ rfl; have c2 := B0.c 2 _ rfl; have c3 := B0.c 3 _ rfl; have HB2 := Lib.hid hb2; have HF1 := Lib.hid F1; have HA := Lib.hid ha; clear hb1 hb2 B0 F1 hf hx hs hlk hS hn h8; by_cases h1 : i.op = 1
  · have hi0 := h0 h1; obtain ⟨k, hk⟩ : ∃ k : Nat, i.n = k := ⟨i.n.toNat, by omega⟩; rw [if_pos h1, hk] at EE; rw [h1] at c0 CH hW0; rw [hk] at c1 CH hW0; rw [h1, hk]; clear CH h0 hi0 h1 hk; by_cases hkn : k < n
    · rw [if_pos (by omega), Int.toNat_natCast] at EE; have VC : Hid (∀ W, Calls Tryz.prog 150 #[.string a, .int .i64 k] W fun e w' => e = .returned (xv 2 0 (elmN a k) (.slice none 0 0)) ∧ Below W.heap.size W w') := (Lib.hid fun W => variable_any a k (by omega) HA.out W); have EV := Lib.hid (fun lo W => elV_fr lo W a k HA.out); have hd : decide ((k : Int) < (n : Int)) = true := decide_eq_true (by omega); generalize elmN a k = M at *
      generalize elmE a n i = R at *
      go_enter Tryz.func100, Tryz.ntmps100
      go_wp2_with (first
        | (go_at_call 150; ((with_reducible refine (VC.out _).mono ?_); rintro e w5 ⟨rfl, hb⟩; have f5 := HF1.out.stay hb; have e0 := f5.c0; have e1 := f5.c1; have e2 := f5.c2; have e3 := f5.c3; have z0 := f5.f0; have z1 := f5.f1; have z2 := f5.f2; have z3 := f5.f3; have G5 := Lib.hid f5; have HB5 := Lib.hid (HB2.out.then_ hb); clear hb f5)))
      have hp := G5.out.put (.int .i64 2) (.int .i64 0) (.string M) (.slice none 0 0); have p0 := hp.c0; have p1 := hp.c1; have p2 := hp.c2; have p3 := hp.c3; refine bodyPost_ret (v := xv 2 0 M (.slice none 0 0)) (by simp [results, Tryz.results100, go_sem, p0, p1, p2, p3]) rfl ?_; rw [EE.out]; exact ⟨_, rfl, EV.out _ _, below_put HB5.out (by omega) _ _ _ _⟩
    · rw [if_neg (by omega)] at EE; have hd : decide ((k : Int) < (n : Int)) = false := decide_eq_false (by omega); generalize elmE a n i = R at *
      go_enter Tryz.func100, Tryz.ntmps100
      go_wp2_with (first
        | (go_at_call 135; ((with_reducible refine (KC.out _).mono ?_); rintro e w5 ⟨rfl, hb⟩; have f5 := HF1.out.stay hb; have e0 := f5.c0; have e1 := f5.c1; have e2 := f5.c2; have e3 := f5.c3; have z0 := f5.f0; have z1 := f5.f1; have z2 := f5.f2; have z3 := f5.f3; have G5 := Lib.hid f5; have HB5 := Lib.hid (HB2.out.then_ hb); clear hb f5)))
      have hp := G5.out.put (.int .i64 1) (.int .i64 0) (.string ⟨#[]⟩) (.slice none 0 0); have p0 := hp.c0; have p1 := hp.c1; have p2 := hp.c2; have p3 := hp.c3; refine bodyPost_ret (v := xv 1 0 ⟨#[]⟩ (.slice none 0 0)) (by simp [results, Tryz.results100, go_sem, p0, p1, p2, p3]) rfl ?_; rw [EE.out]; exact ⟨_, rfl, cst_fr _ _ 0, below_put HB5.out (by omega) _ _ _ _⟩
  · rw [if_neg h1] at EE; have f1 : (i.op == 1) = false := (by rw [beq_eq_false_iff_ne]; exact h1); generalize choE a i 0 n = C at *
    generalize elmE a n i = R at *
    generalize i.op = o at *
    generalize i.n = nn at *
    generalize i.nm = s at *
    generalize i.args.length = K at *
    clear h0 h1
    go_enter Tryz.func100, Tryz.ntmps100
    go_wp2_with (first
      | (go_at_call 151; ((with_reducible refine (CH.out _ HB2.out).mono ?_); rintro e w5 ⟨v5, rfl, hfr5, hb⟩; obtain ⟨q5, c5, rfl, _⟩ := hfr5.form; have HFR := Lib.hid hfr5; have f5 := HF1.out.stay hb; have e0 := f5.c0; have e1 := f5.c1; have e2 := f5.c2; have e3 := f5.c3; have z0 := f5.f0; have z1 := f5.f1; have z2 := f5.f2; have z3 := f5.f3; have G5 := Lib.hid f5; have HB5 := Lib.hid (HB2.out.then_ hb); clear hb f5 hfr5)))
    have hp := G5.out.put (.int .i64 C.op) (.int .i64 C.n) (.string C.nm) (.slice q5 C.args.length c5); have p0 := hp.c0; have p1 := hp.c1; have p2 := hp.c2; have p3 := hp.c3; have hl0 := HF1.out.lt; refine bodyPost_ret (v := xv C.op C.n C.nm (.slice q5 C.args.length c5)) (by simp [results, Tryz.results100, go_sem, p0, p1, p2, p3]) rfl ?_; rw [EE.out]; exact ⟨_, rfl, (fr_put4 (g := w.heap.size + 1) (HFR.out.low (by omega)) _ _ _ _).low (by omega), below_put HB5.out (by omega) _ _ _ _⟩
end Go.Proofs.YtpejflgdehioaaaGreatDoor.ItW
namespace Go.Proofs.YtpejflgdehioaaaGreatDoor.ItM
open Go Go.Proofs.YtpejflgdehioaaaGreatDoor.WordM Go.Proofs.YtpejflgdehioaaaGreatDoor.LexM Go.Proofs.YtpejflgdehioaaaGreatDoor.ExM
open Go.Proofs.YtpejflgdehioaaaGreatDoor.ClM (Fld)
def GE (fs : List Fld) (e : Ex) : Prop := ∃ l, ∀ y ∈ pre l e, fltS y = 0 ∧ nodE fs [] y = 0
theorem GE.kid {fs : List Fld} {o n : Int} {s : ByteArray} {ks : List Ex} (h : GE fs (.mk o n s ks)) {a : Ex} (ha : a ∈ ks) : GE fs a := by
  obtain ⟨l, h⟩ := h; exact ⟨l + 1, fun y hy => h y (by rw [pre_mk]; exact List.mem_cons_of_mem _ (mem_pres.2 ⟨a, ha, hy⟩))⟩
theorem GE.top {fs : List Fld} {o n : Int} {s : ByteArray} {ks : List Ex} (h : GE fs (.mk o n s ks)) : fltS ⟨0, o, n, s, ks.length⟩ = 0 ∧ nodE fs [] ⟨0, o, n, s, ks.length⟩ = 0 := by
  obtain ⟨l, h⟩ := h; exact h ⟨l, o, n, s, ks.length⟩ (by rw [pre_mk]; simp)
theorem flt_facts {l : Nat} {o n : Int} {s : ByteArray} {k : Nat} (h : fltS ⟨l, o, n, s, k⟩ = 0) : takesS o k = true ∧ 0 ≤ n ∧ (isAr o = true → nmB s.data.toList = true) := by
  unfold fltS at h; cases hA : badA ⟨l, o, n, s, k⟩ with
  | true => rw [hA, if_pos rfl] at h; cases h
  | false =>
    rw [hA, if_neg (by decide)] at h; cases hB : badN ⟨l, o, n, s, k⟩ with
    | true => rw [hB, if_pos rfl] at h; cases h
    | false =>
      simp only [badA, Bool.or_eq_false_iff, Bool.not_eq_false', decide_eq_false_iff_not] at hA; simp only [badN, Bool.or_eq_false_iff, Bool.and_eq_false_iff, Bool.not_eq_false'] at hB; refine ⟨hA.1, by omega, fun ha => ?_⟩; rcases hB.2 with e | e
      · rw [ha] at e; cases e
      · exact e
theorem takes3 {k : Nat} (h : takesS 3 k = true) : k = 1 := by simp [takesS, arS] at h; omega
theorem takes24 {k : Nat} (h : takesS 24 k = true) : k = 0 := by simp [takesS, arS] at h; omega
theorem nm_len {s : ByteArray} (h : nmB s.data.toList = true) : s.size ≤ 16 := by
  have e : s.size = s.data.toList.length := rfl; rw [e]; generalize s.data.toList = l at *
  cases l with
  | nil => simp
  | cons c r =>
    unfold nmB at h; simp only [Bool.and_eq_true, decide_eq_true_eq] at h
    simpa using h.1
theorem GE.arr {fs : List Fld} {o n : Int} {s : ByteArray} {ks : List Ex} (h : GE fs (.mk o n s ks)) (ha : isAr o = true) : s.size ≤ 16 ∧ 0 < szI fs s := by
  obtain ⟨h1, h2⟩ := h.top; refine ⟨nm_len ((flt_facts h1).2.2 ha), ?_⟩; unfold nodE at h2; rw [if_pos ha] at h2; unfold arrE at h2; split at h2
  · cases h2
  · split at h2
    · rename_i hh; exact of_decide_eq_true hh
    · cases h2
theorem sz_cst (k : Int) : sz (cst k) = 1 := by unfold cst; rw [sz_mk, szs_nil]
theorem sz_elV (a : ByteArray) (k : Nat) : sz (elV a k) = 1 := by unfold elV; rw [sz_mk, szs_nil]
theorem sz_sumE (a : ByteArray) : ∀ k, sz (sumE a k) = 2 * k + 1
  | 0 => sz_elV a 0
  | k + 1 => by
    show sz (.mk 7 0 ⟨#[]⟩ [sumE a k, elV a (k + 1)]) = _; rw [sz_mk, szs_cons, szs_cons, szs_nil, sz_sumE a k, sz_elV]; omega
theorem sz_choE (a : ByteArray) (i : Ex) : ∀ m k, sz (choE a i k m) = m * (sz i + 4) + 1
  | 0, k => by show sz (cst 0) = _; rw [sz_cst]; omega
  | m + 1, k => by
    show sz (.mk 22 0 ⟨#[]⟩ [.mk 15 0 ⟨#[]⟩ [i, cst k], elV a k, choE a i (k + 1) m]) = _; rw [sz_mk, szs_cons, szs_cons, szs_cons, szs_nil, sz_mk, szs_cons, szs_cons, szs_nil, sz_cst, sz_elV, sz_choE a i m (k + 1), Nat.succ_mul]; omega
theorem sz_pos (e : Ex) : 1 ≤ sz e := by cases e; rw [sz_mk]; omega
theorem sz_elmE (a : ByteArray) (n : Nat) (hn : n ≤ 8) (i : Ex) : sz (elmE a n i) ≤ 8 * (sz i + 4) + 1 := by
  have := sz_pos i; unfold elmE; split
  · split
    · rw [sz_elV]; omega
    · rw [sz_cst]; omega
  · rw [sz_choE]; have : n * (sz i + 4) ≤ 8 * (sz i + 4) := Nat.mul_le_mul_right _ hn; omega
theorem szI_le (fs : List Fld) (hS : ∀ f ∈ fs, 0 ≤ f.sz ∧ f.sz ≤ 8) (s : ByteArray) : 0 ≤ szI fs s ∧ szI fs s ≤ 8 := by
  unfold szI szO; cases h : fs.find? (fun f => ClM.same f.nm s) with
  | none => exact ⟨by decide, by decide⟩
  | some f => exact hS f (List.mem_of_find?_eq_some h)
theorem leaf_sz {fs : List Fld} (hS : ∀ f ∈ fs, 0 ≤ f.sz ∧ f.sz ≤ 8) {e : Ex} (hg : GE fs e) (h1 : sz e = 1) : sz (scM fs e) ≤ 15 := by
  obtain ⟨o, n, s, ks⟩ := e; rw [sz_mk] at h1; have hk : ks = [] := by
    cases ks with
    | nil => rfl
    | cons a r => rw [szs_cons] at h1; have := sz_pos a; omega
  subst hk; rw [scM_mk]; have h8 := szI_le fs hS s; split
  · rw [sz_sumE]; omega
  · split
    · rename_i h3; subst h3; have := takes3 (flt_facts hg.top.1).1; simp at this
    · rw [sz_mk]; simp [szs_nil]
theorem szs_map_le {f : Ex → Ex} {c : Nat} : ∀ (ks : List Ex), (∀ a ∈ ks, sz (f a) ≤ c * sz a) → szs (ks.map f) ≤ c * szs ks
  | [], _ => by simp [szs_nil]
  | a :: r, h => by
    rw [List.map_cons, szs_cons, szs_cons, Nat.mul_add]; have h1 := h a (by simp); have h2 := szs_map_le r (fun b hb => h b (by simp [hb])); omega
theorem scM_sz {fs : List Fld} (hS : ∀ f ∈ fs, 0 ≤ f.sz ∧ f.sz ≤ 8) {e : Ex} (hg : GE fs e) (hb : scB fs e = true) : sz (scM fs e) ≤ 160 * sz e ∧ sz (scM fs e) ≤ 400 := by
  obtain ⟨o, n, s, ks⟩ := e; have hb2 := hb; rw [scB_mk, Bool.and_eq_true] at hb2; have hv := ((vld_zero _).1 (of_decide_eq_true hb2.2)).2.2; refine ⟨?_, hv⟩; by_cases h3 : 3 ≤ sz (.mk o n s ks)
  · omega
  · rw [sz_mk] at h3; cases ks with
    | nil => have := leaf_sz hS hg (by rw [sz_mk, szs_nil]); rw [sz_mk]; omega
    | cons a r =>
      rw [szs_cons] at h3; have ha := sz_pos a; have hr : r = [] := by
        cases r with
        | nil => rfl
        | cons b q => rw [szs_cons] at h3; have := sz_pos b; omega
      subst hr; rw [szs_nil] at h3; have hl := leaf_sz hS (hg.kid (a := a) (by simp)) (by omega); rw [scM_mk, sz_mk, szs_cons, szs_nil]; have h8 := szI_le fs hS s; split
      · rw [sz_sumE]; omega
      · split
        · have := sz_elmE s (szI fs s).toNat (by omega) (hdE ([a].map (scM fs))); have e : hdE ([a].map (scM fs)) = scM fs a := rfl; rw [e] at this ⊢; omega
        · rw [sz_mk, List.map_cons, List.map_nil, szs_cons, szs_nil]; omega
theorem scM_top {fs : List Fld} (hS : ∀ f ∈ fs, 0 ≤ f.sz ∧ f.sz ≤ 8) {o n : Int} {s : ByteArray} {ks : List Ex} (hg : GE fs (.mk o n s ks)) (hb : ∀ a ∈ ks, scB fs a = true) (h60 : sz (.mk o n s ks) ≤ 60) : sz (scM fs (.mk o n s ks)) ≤ 10000 := by
  have h8 := szI_le fs hS s; rw [sz_mk] at h60; rw [scM_mk]; split
  · rw [sz_sumE]; omega
  · split
    · have h1 := sz_elmE s (szI fs s).toNat (by omega) (hdE (ks.map (scM fs))); have h2 : sz (hdE (ks.map (scM fs))) ≤ 400 := by
        cases ks with
        | nil => show sz zE ≤ 400; unfold zE; rw [sz_mk, szs_nil]; omega
        | cons a r => exact (scM_sz hS (hg.kid (a := a) (by simp)) (hb a (by simp))).2
      omega
    · rw [sz_mk]; have := szs_map_le (f := scM fs) (c := 160) ks (fun a ha => (scM_sz hS (hg.kid ha) (hb a ha)).1); omega
def scR (fs : List Fld) (e : Ex) : Ex × Int := if scB fs e = true then (scM fs e, 0) else (zE, 2)
end Go.Proofs.YtpejflgdehioaaaGreatDoor.ItM
