/-
  Laws that the card uses; no conditions beside those that each states (ExValid).
-/
import Derived.Test.YtpejflgdehioaaaGreatDoorT07
import Derived.Test.YtpejflgdehioaaaGreatDoorT09
import Derived.Test.YtpejflgdehioaaaGreatDoorT15
namespace Go.Proofs.YtpejflgdehioaaaGreatDoor.ExW
open Go Go.RowKit Go.Shelf Go.Proofs.YtpejflgdehioaaaGreatDoor.NumM Go.Proofs.YtpejflgdehioaaaGreatDoor.LexW Go.Proofs.YtpejflgdehioaaaGreatDoor.LexM Go.Proofs.YtpejflgdehioaaaGreatDoor.ExM
attribute [local go_sem] Oper.semAt_some
theorem four_own (B g : Nat) (x0 x1 x2 x3 : Value) : OwnFrom B (fun (_ : Unit) W => Four W g x0 x1 x2 x3) := fun _ X _ row hs hg hr => by
  have hne : some g ≠ row := fun e => by
    obtain ⟨_, ob, ho, hc⟩ := hr g e.symm; have := hs.c0; simp only [World.cell?, ho] at this; cases ob <;> simp_all [Obj.isCells]
  have hb := hg.block g hs.lt hne; exact ⟨Nat.lt_of_lt_of_le hs.lt hg.size, (World.cell?_of_block (w := X) hb).trans hs.c0, (World.cell?_of_block (w := X) hb).trans hs.c1, (World.cell?_of_block (w := X) hb).trans hs.c2, (World.cell?_of_block (w := X) hb).trans hs.c3,
    (World.frozen?_of_block (w := X) hb).trans hs.f0, (World.frozen?_of_block (w := X) hb).trans hs.f1, (World.frozen?_of_block (w := X) hb).trans hs.f2, (World.frozen?_of_block (w := X) hb).trans hs.f3⟩
theorem bxStay {W W' : World} {B : Nat} {t : TypeId} {v : Value} (h : Boxed W B t v) (hb : Below W.heap.size W W') : Boxed W' B t v := (hb.block B h.lt).trans h
theorem keepsFrom_below {B : Nat} {W W' : World} (h : Below W.heap.size W W') : KeepsFrom B W W' :=
  ⟨h.size, fun k _ _ hk _ => (h.block k (Array.getElem?_eq_some_iff.1 hk).1).trans hk⟩
set_option maxRecDepth 100000 in
set_option maxHeartbeats 8000000 in
theorem valid_any (e : Ex) (v : Value) (w : World) (hx : ExAt w.heap.size w v e) (hsz : sz e ≤ 10000) (ht : Tab w) :
    Calls Tryz.prog 55 #[v] w (tInt (vld e) w) := by
  obtain ⟨p, cap, pl, cl, rfl, hs, ha⟩ := hx.form; have HX := Lib.hid hx; have HT := Lib.hid ht; clear hx ha ht; generalize e.op = o at *
  generalize e.n = num at *
  generalize e.nm = s at *
  generalize e.args.length = K at *
  refine (callsIn_wide (n := 9)).1 ?_; refine callsIn_of_wp_marks Tryz.func55 rfl trivial ?_ rfl; simp only [Tryz.ntmps55, List.size_toArray, List.length_cons, List.length_nil, Nat.reduceAdd, Nat.reduceSub, Array.replicate_succ, Array.replicate_zero, List.push_toArray, List.append_toArray, List.nil_append, List.cons_append]
  gi_wp2_with (refine ⟨trivial, ?_⟩; gi_at_call 94; refine (nodes_in Fence.wide _ trivial rfl _ _ _ _ _).mono ?_; rintro e w' ⟨rfl, rfl⟩)
  have bR := (((Boxed.new (w.alloc (.cells #[.int .i64 o, .int .i64 num, .string s, .slice p K cap] 43)) 29 (.int .i64 0)).alloc (.cells #[.int .i64 0] 3)).alloc (.cells #[.int .i64 0] 3)).alloc (.cells #[.int .i64 o, .int .i64 num, .string s, .slice p K cap] 43); have bS := ((Boxed.new ((w.alloc (.cells #[.int .i64 o, .int .i64 num, .string s, .slice p K cap] 43)).alloc (.cells #[.int .i64 0] 29)) 3 (.int .i64 0)).alloc (.cells #[.int .i64 0] 3)).alloc (.cells #[.int .i64 o, .int .i64 num, .string s, .slice p K cap] 43); have bD := (Boxed.new (((w.alloc (.cells #[.int .i64 o, .int .i64 num, .string s, .slice p K cap] 43)).alloc (.cells #[.int .i64 0] 29)).alloc (.cells #[.int .i64 0] 3)) 3 (.int .i64 0)).alloc (.cells #[.int .i64 o, .int .i64 num, .string s, .slice p K cap] 43); have bA := Four.new ((((w.alloc (.cells #[.int .i64 o, .int .i64 num, .string s, .slice p K cap] 43)).alloc (.cells #[.int .i64 0] 29)).alloc (.cells #[.int .i64 0] 3)).alloc (.cells #[.int .i64 0] 3)) (.int .i64 o) (.int .i64 num) (.string s) (.slice p K cap) 43; have hB0 : Below w.heap.size w (((((w.alloc (.cells #[.int .i64 o, .int .i64 num, .string s, .slice p K cap] 43)).alloc (.cells #[.int .i64 0] 29)).alloc (.cells #[.int .i64 0] 3)).alloc (.cells #[.int .i64 0] 3)).alloc (.cells #[.int .i64 o, .int .i64 num, .string s, .slice p K cap] 43)) := (((((Below.refl _ w).alloc (Nat.le_refl _) _).alloc (by simp) _).alloc (by simp; omega) _).alloc (by simp; omega) _).alloc (by simp; omega) _; have hz : (((((w.alloc (.cells #[.int .i64 o, .int .i64 num, .string s, .slice p K cap] 43)).alloc (.cells #[.int .i64 0] 29)).alloc (.cells #[.int .i64 0] 3)).alloc (.cells #[.int .i64 0] 3)).alloc (.cells #[.int .i64 o, .int .i64 num, .string s, .slice p K cap] 43)).heap.size = w.heap.size + 5 := (by simp); simp only [World.size_alloc, Nat.add_assoc, Nat.reduceAdd] at bR bS bD bA; simp only [Nat.add_assoc, Nat.reduceAdd]; obtain ⟨W0, hW0⟩ : ∃ W0, (((((w.alloc (.cells #[.int .i64 o, .int .i64 num, .string s, .slice p K cap] 43)).alloc (.cells #[.int .i64 0] 29)).alloc (.cells #[.int .i64 0] 3)).alloc (.cells #[.int .i64 0] 3)).alloc (.cells #[.int .i64 o, .int .i64 num, .string s, .slice p K cap] 43)) = W0 := ⟨_, rfl⟩; rw [hW0] at bR bS bD bA hB0 hz ⊢; clear hW0
  refine wpIn_rangeFunc_ownH rfl (by decide) (gf := 140) (lb := #[.pointer (some ⟨w.heap.size + 4, 0, none⟩)]) rfl trivial (enters_of Tryz.func140 (by kernel_rfl) rfl)
    (nodes_stops Fence.wide rfl _ trivial trivial rfl w.heap.size (w.heap.size + 4) (w.heap.size + 4) (by omega) e hsz o num s (.slice p K cap) W0 (by omega) bA (HX.out.under hB0)) keep_t keep_b (Below.refl _ _) (fun _ => rfl)
    (fun bef W => (((Boxed W (w.heap.size + 2) 3 (.int .i64 bef.length) ∧ Boxed W (w.heap.size + 3) 3 (.int .i64 (mxL (bef.map Nd.info)))) ∧ Boxed W (w.heap.size + 1) 29 (.int .i64 0)) ∧ fstE (bef.map Nd.info) = 0) ∧ Below w.heap.size W0 W)
    (fun c bef W => (Boxed W (w.heap.size + 1) 29 (.int .i64 (fstE (bef.map Nd.info))) ∧ (c = .ret ∧ fstE (bef.map Nd.info) ≠ 0)) ∧ Below w.heap.size W0 W)
    (OwnFrom.and (OwnFrom.and (OwnFrom.and (OwnFrom.and (Own.from (boxed_own _ _ _) _) (Own.from (boxed_own _ _ _) _)) (Own.from (boxed_own _ _ _) _)) (ownFrom_pure _ _)) (ownFrom_below (by omega) (by omega)))
    (fun c => OwnFrom.and (OwnFrom.and (Own.from (boxed_own _ _ _) _) (ownFrom_pure _ _)) (ownFrom_below (by omega) (by omega)))
    ⟨⟨⟨⟨bS, bD⟩, bR⟩, rfl⟩, Below.refl _ _⟩
    (fun x a' W => ∃ g, a' = { tmps := #[xv o num s (.slice p K cap), .pointer (some ⟨w.heap.size, 0, none⟩), .pointer (some ⟨w.heap.size + 1, 0, none⟩), .pointer (some ⟨w.heap.size + 2, 0, none⟩), .pointer (some ⟨w.heap.size + 3, 0, none⟩), .int .i64 x.lv, .pointer (some ⟨g, 0, none⟩), undef, xv o num s (.slice p K cap), .func (.func 140) #[] #[.pointer (some ⟨w.heap.size + 4, 0, none⟩)], .int .i64 x.lv, xv x.op x.n x.nm (.slice x.p x.k x.cap), undef, undef, undef, undef, undef, undef, undef, undef, undef, undef, undef, undef, undef, undef, undef, undef], defers := [] } ∧ Four W g (.int .i64 x.op) (.int .i64 x.n) (.string x.nm) (.slice x.p x.k x.cap))
    (fun x a' _ X Y row hs hg hr => by obtain ⟨g, h1, h2⟩ := hs; exact ⟨g, h1, four_own _ g _ _ _ _ () X Y row h2 hg hr⟩)
    ?assign ?body ?done ?stop
  case assign =>
    rintro l bef x W K ⟨⟨⟨⟨bS1, bD1⟩, bR1⟩, hf1⟩, hB1⟩ hK; have hWs := hB1.size; have hb2 : Below W.heap.size W (W.alloc (.cells #[.int .i64 x.op, .int .i64 x.n, .string x.nm, .slice x.p x.k x.cap] 43)) := (Below.refl _ _).alloc (Nat.le_refl _) _; have hlt := bD1.lt; have hK2 := hK _ _ (keepsFrom_below hb2) (Keep.of_below hb2) ⟨⟨⟨⟨bxStay bS1 hb2, bxStay bD1 hb2⟩, bxStay bR1 hb2⟩, hf1⟩, hB1.trans (hb2.mono (by omega))⟩ ⟨W.heap.size, rfl, Four.new W _ _ _ _ 43⟩; rw [zip2]
    gi_wp2
    exact hK2
  case body =>
    rintro l bef x a' W hl _ ⟨⟨⟨⟨bS1, bD1⟩, bR1⟩, hf1⟩, hB1⟩ ⟨g, rfl, fX⟩ hlt; have hWs := hB1.size; have hFS := Lib.hid (fst_snoc (bef.map Nd.info) x.info); have hMX : Hid (mxL ((bef ++ [x]).map Nd.info) = max (mxL (bef.map Nd.info)) x.lv) := Lib.hid (by rw [List.map_append, mx_append, List.map_cons, List.map_nil, mx_one]; rfl); have hMP : Hid ((bef ++ [x]).map Nd.info = bef.map Nd.info ++ [x.info]) := Lib.hid (by rw [List.map_append]; rfl); have FC : Hid (∀ n, CallsIn (Fence.wide.inRound l) n Tryz.prog 95 #[xv x.op x.n x.nm (.slice x.p x.k x.cap)] W (tInt (fltS x.info) W)) := (Lib.hid fun n => CallsIn.inRound l (callsIn_wide.2 (fault_any x.op x.n x.nm x.p x.k x.cap W x.hs x.hk (HT.out.later (hB0.trans hB1))))); have hbl : bef.length ≤ 10000 := (by omega); have x0 := fX.c0; have x1 := fX.c1; have x2 := fX.c2; have x3 := fX.c3; have fR := bR1.frozen; have l1 := bR1.lt; have l2 := bS1.lt; have l3 := bD1.lt; have BS := Lib.hid bS1; have BD := Lib.hid bD1; have BR := Lib.hid bR1; have HB1 := Lib.hid hB1; have HF1 := Lib.hid hf1; have hxl := x.hl; clear fX bS1 bD1 bR1 hB1 hf1; by_cases hf : fltS x.info = 0
    · rw [hf] at FC; have HE : Hid (fstE ((bef ++ [x]).map Nd.info) = 0) := Lib.hid (by rw [hMP.out, hFS.out, HF1.out, if_pos rfl, hf]); clear hf; generalize mxL (bef.map Nd.info) = d at *
      have hmx : Hid (((max d x.lv : Nat) : Int) = max (d : Int) (x.lv : Int)) := Lib.hid (by omega)
      gi_wp2_with (refine ⟨trivial, ?_⟩; gi_at_call 95; refine (FC.out _).mono ?_; rintro e w1 ⟨rfl, hb⟩; have bS2 := bxStay BS.out hb; have bD2 := bxStay BD.out hb; have bR2 := bxStay BR.out hb; have cS := bS2.cell; have cD := bD2.cell; have fS := bS2.frozen; have fD := bD2.frozen; have HB := Lib.hid hb; have BS2 := Lib.hid bS2; have BD2 := Lib.hid bD2; have BR2 := Lib.hid bR2; clear hb bS2 bD2 bR2)
      refine ⟨((keepsFrom_below HB.out).trans ((KeepsOthers.setCell _ _ _).from _)).trans ((KeepsOthers.setCell _ _ _).from _), ((Keep.of_below HB.out).set (by omega) (by omega) _).set (by omega) (by omega) _, ⟨⟨⟨⟨?_, ?_⟩, (BR2.out.other (by omega) _).other (by omega) _⟩, HE.out⟩, ((HB1.out.trans (HB.out.mono (by omega))).setCell (p := ⟨w.heap.size + 2, 0, none⟩) (by simp) _).setCell (p := ⟨w.heap.size + 3, 0, none⟩) (by simp) _⟩⟩
      · rw [List.length_append]; exact (BS2.out.set _).other (by omega) _
      · rw [hMX.out, hmx.out]; exact (BD2.out.other (by omega) _).set _
    · have HE : Hid (fstE ((bef ++ [x]).map Nd.info) = fltS x.info) := Lib.hid (by rw [hMP.out, hFS.out, HF1.out, if_pos rfl]); generalize fltS x.info = E at *
      have hE : (E != 0) = true := (by simpa using hf); have HNE := Lib.hid hf; clear hf
      gi_wp2_with (refine ⟨trivial, ?_⟩; gi_at_call 95; refine (FC.out _).mono ?_; rintro e w1 ⟨rfl, hb⟩; have bR2 := bxStay BR.out hb; have cR := bR2.cell; have fR2 := bR2.frozen; have HB := Lib.hid hb; have BR2 := Lib.hid bR2; clear hb bR2)
      refine ⟨(keepsFrom_below HB.out).trans ((KeepsOthers.setCell _ _ _).from _), ⟨?_, rfl, by rw [HE.out]; exact HNE.out⟩, (HB1.out.trans (HB.out.mono (by omega))).setCell (p := ⟨w.heap.size + 1, 0, none⟩) (by simp) _⟩; rw [HE.out]; exact BR2.out.set _
  case done =>
    rintro D zs W hD hzs ⟨⟨⟨⟨bS1, bD1⟩, bR1⟩, hf1⟩, hB1⟩ hK; have hl : mxL (zs.map Nd.info) = dep e := (by rw [hzs]; have := pre_mx e 1; omega); have hl2 : zs.length = sz e := (by rw [← pre_len e 1, ← hzs, List.length_map]); have hlz : (pre 1 e).length = sz e := pre_len e 1; have HV : Hid (vld e = if 24 < dep e ∨ 400 < sz e then 2 else 0) := Lib.hid (by unfold vld vldL; rw [← hzs, if_pos hf1, hl, List.length_map, hl2]); have HBW := Lib.hid (hB0.trans hB1); rw [hl] at bD1; rw [hl2] at bS1; have cS := bS1.cell; have cD := bD1.cell; have cR := bR1.cell; have fR := bR1.frozen; have HK := Lib.hid hK; clear bS1 bD1 hl hl2 hzs hf1 hlz hB1; by_cases h1 : 24 < dep e
    · have q1 : decide (24 < (dep e : Int)) = true := (by rw [decide_eq_true_eq]; omega); have HV2 : Hid (vld e = 2) := Lib.hid (by rw [HV.out, if_pos (.inl h1)]); clear h1
      gi_wp2
      have hK' := (KeepsOthers.setCell W ⟨w.heap.size + 1, 0, none⟩ (.int .i64 2)).same D _ HK.out rfl; refine ⟨by simp, .inl ⟨_, _, rfl, run_takeDeferred hK', ?_⟩⟩; have hc5 := cell_kept (World.cell?_setCell_same' W ⟨w.heap.size + 1, 0, none⟩ (.int .i64 2) (by rw [cR]; rfl)) (grownBy_putObj' _ D (.deferred none)) (fun r e => by cases e; exact ⟨_, hK', rfl⟩); refine ⟨.int .i64 2, ?_, by rw [HV2.out], (HBW.out.setCell (p := ⟨w.heap.size + 1, 0, none⟩) (by simp) _).trans (belowK_b (w := w) (Nat.le_refl _) _ D _ _ (by omega) hK' rfl rfl)⟩; simp [results, Tryz.results55, go_sem, hc5]
    · have q1 : decide (24 < (dep e : Int)) = false := (by rw [decide_eq_false_iff_not]; omega); by_cases h2 : 400 < sz e
      · have q2 : decide (400 < (sz e : Int)) = true := (by rw [decide_eq_true_eq]; omega); have HV2 : Hid (vld e = 2) := Lib.hid (by rw [HV.out, if_pos (.inr h2)]); clear h1 h2
        gi_wp2
        have hK' := (KeepsOthers.setCell W ⟨w.heap.size + 1, 0, none⟩ (.int .i64 2)).same D _ HK.out rfl; refine ⟨by simp, .inl ⟨_, _, rfl, run_takeDeferred hK', ?_⟩⟩; have hc5 := cell_kept (World.cell?_setCell_same' W ⟨w.heap.size + 1, 0, none⟩ (.int .i64 2) (by rw [cR]; rfl)) (grownBy_putObj' _ D (.deferred none)) (fun r e => by cases e; exact ⟨_, hK', rfl⟩); refine ⟨.int .i64 2, ?_, by rw [HV2.out], (HBW.out.setCell (p := ⟨w.heap.size + 1, 0, none⟩) (by simp) _).trans (belowK_b (w := w) (Nat.le_refl _) _ D _ _ (by omega) hK' rfl rfl)⟩; simp [results, Tryz.results55, go_sem, hc5]
      · have q2 : decide (400 < (sz e : Int)) = false := (by rw [decide_eq_false_iff_not]; omega); have HV2 : Hid (vld e = 0) := Lib.hid (by rw [HV.out, if_neg (by omega)]); clear h1 h2
        gi_wp2
        have hK' := (KeepsOthers.setCell W ⟨w.heap.size + 1, 0, none⟩ (.int .i64 0)).same D _ HK.out rfl; refine ⟨by simp, .inl ⟨_, _, rfl, run_takeDeferred hK', ?_⟩⟩; have hc5 := cell_kept (World.cell?_setCell_same' W ⟨w.heap.size + 1, 0, none⟩ (.int .i64 0) (by rw [cR]; rfl)) (grownBy_putObj' _ D (.deferred none)) (fun r e => by cases e; exact ⟨_, hK', rfl⟩); refine ⟨.int .i64 0, ?_, by rw [HV2.out], (HBW.out.setCell (p := ⟨w.heap.size + 1, 0, none⟩) (by simp) _).trans (belowK_b (w := w) (Nat.le_refl _) _ D _ _ (by omega) hK' rfl rfl)⟩; simp [results, Tryz.results55, go_sem, hc5]
  case stop =>
    rintro D c bef W hD hpre ⟨⟨bR1, rfl, hne⟩, hB1⟩ hK; have HV : Hid (fstE (bef.map Nd.info) = vld e) := Lib.hid (by
      obtain ⟨r, hr⟩ := hpre; unfold vld vldL; rw [← hr, fst_append, if_neg hne, if_neg hne])
    have HBW := Lib.hid (hB0.trans hB1); have cR := bR1.cell; clear bR1 hne hpre hB1
    gi_wp2
    refine ⟨by simp, .inl ⟨_, _, rfl, run_takeDeferred hK, ?_⟩⟩; have hc5 := cell_kept cR (grownBy_putObj' _ D (.deferred none)) (fun r e => by cases e; exact ⟨_, hK, rfl⟩); refine ⟨.int .i64 (fstE (bef.map Nd.info)), ?_, by rw [HV.out], HBW.out.trans (belowK_b (w := w) (Nat.le_refl _) W D _ _ (by omega) hK rfl rfl)⟩; simp [results, Tryz.results55, go_sem, hc5]
end Go.Proofs.YtpejflgdehioaaaGreatDoor.ExW
