/-
  Laws that the card uses; no conditions beside those that each states (ExValid ItBlk ExNames ItConcat ExBuild ItSet).
-/
import Derived.OwnWalk
import Derived.LoopN
import Derived.Lib.AppendZerosOnto
import Derived.Deep.RegionWith
import Derived.Deep.DeepCutAuto
import Derived.Test.YtpejflgdehioaaaGreatDoorQ04
namespace Go.Proofs.YtpejflgdehioaaaGreatDoor.ExW
open Go Go.RowKit Go.Shelf Go.Proofs.YtpejflgdehioaaaGreatDoor.NumM Go.Proofs.YtpejflgdehioaaaGreatDoor.LexW Go.Proofs.YtpejflgdehioaaaGreatDoor.LexM Go.Proofs.YtpejflgdehioaaaGreatDoor.ExM
attribute [local go_sem] Oper.semAt_some
theorem four_own (B g : Nat) (x0 x1 x2 x3 : Value) : OwnFrom B (fun (_ : Unit) W => Four W g x0 x1 x2 x3) := fun _ X _ row hs hg hr => by
  have hne : some g ≠ row := fun e => by
    obtain ⟨_, ob, ho, hc⟩ := hr g e.symm; have := hs.c0; simp only [World.cell?, ho] at this; cases ob <;> simp_all [Obj.isCells]
  have hb := hg.block g hs.lt hne; exact ⟨Nat.lt_of_lt_of_le hs.lt hg.size, (World.cell?_of_block (w := X) hb).trans hs.c0, (World.cell?_of_block (w := X) hb).trans hs.c1, (World.cell?_of_block (w := X) hb).trans hs.c2, (World.cell?_of_block (w := X) hb).trans hs.c3,
    (World.frozen?_of_block (w := X) hb).trans hs.f0, (World.frozen?_of_block (w := X) hb).trans hs.f1, (World.frozen?_of_block (w := X) hb).trans hs.f2, (World.frozen?_of_block (w := X) hb).trans hs.f3⟩
theorem bxStay {W W' : World} {B : Nat} {t : TypeId} {v : Value} (h : Boxed W B t v) (hb : Below W.heap.size W W') : Boxed W' B t v := (hb.block B h.lt).trans h
theorem keepsFrom_below {B : Nat} {W W' : World} (h : Below W.heap.size W W') : KeepsFrom B W W' :=
  ⟨h.size, fun k _ _ hk _ => (h.block k (Array.getElem?_eq_some_iff.1 hk).1).trans hk⟩
set_option maxRecDepth 100000 in
set_option maxHeartbeats 8000000 in
theorem valid_any (e : Ex) (v : Value) (w : World) (hx : ExAt w.heap.size w v e) (hsz : sz e ≤ 10000) (ht : Tab w) :
    Calls Tryz.prog 55 #[v] w (tInt (vld e) w) := by
  obtain ⟨p, cap, pl, cl, rfl, hs, ha⟩ := hx.form; have HX := Lib.hid hx; have HT := Lib.hid ht; clear hx ha ht; generalize e.op = o at *
  generalize e.n = num at *
  generalize e.nm = s at *
  generalize e.args.length = K at *
  refine (callsIn_wide (n := 9)).1 ?_; refine callsIn_of_wp_marks Tryz.func55 rfl trivial ?_ rfl; simp only [Tryz.ntmps55, List.size_toArray, List.length_cons, List.length_nil, Nat.reduceAdd, Nat.reduceSub, Array.replicate_succ, Array.replicate_zero, List.push_toArray, List.append_toArray, List.nil_append, List.cons_append]
  gi_wp2_with (refine ⟨trivial, ?_⟩; gi_at_call 94; refine (nodes_in Fence.wide _ trivial rfl _ _ _ _ _).mono ?_; rintro e w' ⟨rfl, rfl⟩)
  have bR := (((Boxed.new (w.alloc (.cells #[.int .i64 o, .int .i64 num, .string s, .slice p K cap] 43)) 29 (.int .i64 0)).alloc (.cells #[.int .i64 0] 3)).alloc (.cells #[.int .i64 0] 3)).alloc (.cells #[.int .i64 o, .int .i64 num, .string s, .slice p K cap] 43); have bS := ((Boxed.new ((w.alloc (.cells #[.int .i64 o, .int .i64 num, .string s, .slice p K cap] 43)).alloc (.cells #[.int .i64 0] 29)) 3 (.int .i64 0)).alloc (.cells #[.int .i64 0] 3)).alloc (.cells #[.int .i64 o, .int .i64 num, .string s, .slice p K cap] 43); have bD := (Boxed.new (((w.alloc (.cells #[.int .i64 o, .int .i64 num, .string s, .slice p K cap] 43)).alloc (.cells #[.int .i64 0] 29)).alloc (.cells #[.int .i64 0] 3)) 3 (.int .i64 0)).alloc (.cells #[.int .i64 o, .int .i64 num, .string s, .slice p K cap] 43); have bA := Four.new ((((w.alloc (.cells #[.int .i64 o, .int .i64 num, .string s, .slice p K cap] 43)).alloc (.cells #[.int .i64 0] 29)).alloc (.cells #[.int .i64 0] 3)).alloc (.cells #[.int .i64 0] 3)) (.int .i64 o) (.int .i64 num) (.string s) (.slice p K cap) 43; have hB0 : Below w.heap.size w (((((w.alloc (.cells #[.int .i64 o, .int .i64 num, .string s, .slice p K cap] 43)).alloc (.cells #[.int .i64 0] 29)).alloc (.cells #[.int .i64 0] 3)).alloc (.cells #[.int .i64 0] 3)).alloc (.cells #[.int .i64 o, .int .i64 num, .string s, .slice p K cap] 43)) := (((((Below.refl _ w).alloc (Nat.le_refl _) _).alloc (by simp) _).alloc (by simp; omega) _).alloc (by simp; omega) _).alloc (by simp; omega) _; have hz : (((((w.alloc (.cells #[.int .i64 o, .int .i64 num, .string s, .slice p K cap] 43)).alloc (.cells #[.int .i64 0] 29)).alloc (.cells #[.int .i64 0] 3)).alloc (.cells #[.int .i64 0] 3)).alloc (.cells #[.int .i64 o, .int .i64 num, .string s, .slice p K cap] 43)).heap.size = w.heap.size + 5 := (by simp); simp only [World.size_alloc, Nat.add_assoc, Nat.reduceAdd] at bR bS bD bA; simp only [Nat.add_assoc, Nat.reduceAdd]; obtain ⟨W0, hW0⟩ : ∃ W0, (((((w.alloc (.cells #[.int .i64 o, .int .i64 num, .string s, .slice p K cap] 43)).alloc (.cells #[.int .i64 0] 29)).alloc (.cells #[.int .i64 0] 3)).alloc (.cells #[.int .i64 0] 3)).alloc (.cells #[.int .i64 o, .int .i64 num, .string s, .slice p K cap] 43)) = W0 := ⟨_, rfl⟩; rw [hW0] at bR bS bD bA hB0 hz ⊢; clear hW0
  refine wpIn_rangeFunc_ownH rfl (by decide) (gf := 140) (lb := #[.pointer (some ⟨w.heap.size + 4, 0, none⟩)]) rfl trivial (enters_of Tryz.func140 (by kernel_rfl) rfl)
    (nodes_stops Fence.wide rfl _ trivial trivial rfl w.heap.size (w.heap.size + 4) (w.heap.size + 4) (by omega) e hsz o num s (.slice p K cap) W0 (by omega) bA (HX.out.under hB0)) keep_t keep_b (Below.refl _ _) (fun _ => rfl)
    (fun bef W => (((Boxed W (w.heap.size + 2) 3 (.int .i64 bef.length) ∧ Boxed W (w.heap.size + 3) 3 (.int .i64 (mxL (bef.map Nd.info)))) ∧ Boxed W (w.heap.size + 1) 29 (.int .i64 0)) ∧ fstE (bef.map Nd.info) = 0) ∧ Below w.heap.size W0 W)
    (fun c bef W => (Boxed W (w.heap.size + 1) 29 (.int .i64 (fstE (bef.map Nd.info))) ∧ (c = .ret ∧ fstE (bef.map Nd.info) ≠ 0)) ∧ Below w.heap.size W0 W)
    (OwnFrom.and (OwnFrom.and (OwnFrom.and (OwnFrom.and (Own.from (boxed_own _ _ _) _) (Own.from (boxed_own _ _ _) _)) (Own.from (boxed_own _ _ _) _)) (ownFrom_pure _ _)) (ownFrom_below (by omega) (by omega)))
    (fun c => OwnFrom.and (OwnFrom.and (Own.from (boxed_own _ _ _) _) (ownFrom_pure _ _)) (ownFrom_below (by omega) (by omega)))
    ⟨⟨⟨⟨bS, bD⟩, bR⟩, rfl⟩, Below.refl _ _⟩
    (fun x a' W => ∃ g, a' = { tmps := #[xv o num s (.slice p K cap), .pointer (some ⟨w.heap.size, 0, none⟩), .pointer (some ⟨w.heap.size + 1, 0, none⟩), .pointer (some ⟨w.heap.size + 2, 0, none⟩), .pointer (some ⟨w.heap.size + 3, 0, none⟩), .int .i64 x.lv, .pointer (some ⟨g, 0, none⟩), undef, xv o num s (.slice p K cap), .func (.func 140) #[] #[.pointer (some ⟨w.heap.size + 4, 0, none⟩)], .int .i64 x.lv, xv x.op x.n x.nm (.slice x.p x.k x.cap), undef, undef, undef, undef, undef, undef, undef, undef, undef, undef, undef, undef, undef, undef, undef, undef], defers := [] } ∧ Four W g (.int .i64 x.op) (.int .i64 x.n) (.string x.nm) (.slice x.p x.k x.cap))
    (fun x a' _ X Y row hs hg hr => by obtain ⟨g, h1, h2⟩ := hs; exact ⟨g, h1, four_own _ g _ _ _ _ () X Y row h2 hg hr⟩)
    ?assign ?body ?done ?stop
  case assign =>
    rintro l bef x W K ⟨⟨⟨⟨bS1, bD1⟩, bR1⟩, hf1⟩, hB1⟩ hK; have hWs := hB1.size; have hb2 : Below W.heap.size W (W.alloc (.cells #[.int .i64 x.op, .int .i64 x.n, .string x.nm, .slice x.p x.k x.cap] 43)) := (Below.refl _ _).alloc (Nat.le_refl _) _; have hlt := bD1.lt; have hK2 := hK _ _ (keepsFrom_below hb2) (Keep.of_below hb2) ⟨⟨⟨⟨bxStay bS1 hb2, bxStay bD1 hb2⟩, bxStay bR1 hb2⟩, hf1⟩, hB1.trans (hb2.mono (by omega))⟩ ⟨W.heap.size, rfl, Four.new W _ _ _ _ 43⟩; rw [zip2]
    gi_wp2
    exact hK2
  case body =>
    rintro l bef x a' W hl _ ⟨⟨⟨⟨bS1, bD1⟩, bR1⟩, hf1⟩, hB1⟩ ⟨g, rfl, fX⟩ hlt; have hWs := hB1.size; have hFS := Lib.hid (fst_snoc (bef.map Nd.info) x.info); have hMX : Hid (mxL ((bef ++ [x]).map Nd.info) = max (mxL (bef.map Nd.info)) x.lv) := Lib.hid (by rw [List.map_append, mx_append, List.map_cons, List.map_nil, mx_one]; rfl); have hMP : Hid ((bef ++ [x]).map Nd.info = bef.map Nd.info ++ [x.info]) := Lib.hid (by rw [List.map_append]; rfl); have FC : Hid (∀ n, CallsIn (Fence.wide.inRound l) n Tryz.prog 95 #[xv x.op x.n x.nm (.slice x.p x.k x.cap)] W (tInt (fltS x.info) W)) := (Lib.hid fun n => CallsIn.inRound l (callsIn_wide.2 (fault_any x.op x.n x.nm x.p x.k x.cap W x.hs x.hk (HT.out.later (hB0.trans hB1))))); have hbl : bef.length ≤ 10000 := (by omega); have x0 := fX.c0; have x1 := fX.c1; have x2 := fX.c2; have x3 := fX.c3; have fR := bR1.frozen; have l1 := bR1.lt; have l2 := bS1.lt; have l3 := bD1.lt; have BS := Lib.hid bS1; have BD := Lib.hid bD1; have BR := Lib.hid bR1; have HB1 := Lib.hid hB1; have HF1 := Lib.hid hf1; have hxl := x.hl; clear fX bS1 bD1 bR1 hB1 hf1; by_cases hf : fltS x.info = 0
    · rw [hf] at FC; have HE : Hid (fstE ((bef ++ [x]).map Nd.info) = 0) := Lib.hid (by rw [hMP.out, hFS.out, HF1.out, if_pos rfl, hf]); clear hf; generalize mxL (bef.map Nd.info) = d at *
      have hmx : Hid (((max d x.lv : Nat) : Int) = max (d : Int) (x.lv : Int)) := Lib.hid (by omega)
      gi_wp2_with (refine ⟨trivial, ?_⟩; gi_at_call 95; refine (FC.out _).mono ?_; rintro e w1 ⟨rfl, hb⟩; have bS2 := bxStay BS.out hb; have bD2 := bxStay BD.out hb; have bR2 := bxStay BR.out hb; have cS := bS2.cell; have cD := bD2.cell; have fS := bS2.frozen; have fD := bD2.frozen; have HB := Lib.hid hb; have BS2 := Lib.hid bS2; have BD2 := Lib.hid bD2; have BR2 := Lib.hid bR2; clear hb bS2 bD2 bR2)
      refine ⟨((keepsFrom_below HB.out).trans ((KeepsOthers.setCell _ _ _).from _)).trans ((KeepsOthers.setCell _ _ _).from _), ((Keep.of_below HB.out).set (by omega) (by omega) _).set (by omega) (by omega) _, ⟨⟨⟨⟨?_, ?_⟩, (BR2.out.other (by omega) _).other (by omega) _⟩, HE.out⟩, ((HB1.out.trans (HB.out.mono (by omega))).setCell (p := ⟨w.heap.size + 2, 0, none⟩) (by simp) _).setCell (p := ⟨w.heap.size + 3, 0, none⟩) (by simp) _⟩⟩
      · rw [List.length_append]; exact (BS2.out.set _).other (by omega) _
      · rw [hMX.out, hmx.out]; exact (BD2.out.other (by omega) _).set _
    · have HE : Hid (fstE ((bef ++ [x]).map Nd.info) = fltS x.info) := Lib.hid (by rw [hMP.out, hFS.out, HF1.out, if_pos rfl]); generalize fltS x.info = E at *
      have hE : (E != 0) = true := (by simpa using hf); have HNE := Lib.hid hf; clear hf
      gi_wp2_with (refine ⟨trivial, ?_⟩; gi_at_call 95; refine (FC.out _).mono ?_; rintro e w1 ⟨rfl, hb⟩; have bR2 := bxStay BR.out hb; have cR := bR2.cell; have fR2 := bR2.frozen; have HB := Lib.hid hb; have BR2 := Lib.hid bR2; clear hb bR2)
      refine ⟨(keepsFrom_below HB.out).trans ((KeepsOthers.setCell _ _ _).from _), ⟨?_, rfl, by rw [HE.out]; exact HNE.out⟩, (HB1.out.trans (HB.out.mono (by omega))).setCell (p := ⟨w.heap.size + 1, 0, none⟩) (by simp) _⟩; rw [HE.out]; exact BR2.out.set _
  case done =>
    rintro D zs W hD hzs ⟨⟨⟨⟨bS1, bD1⟩, bR1⟩, hf1⟩, hB1⟩ hK; have hl : mxL (zs.map Nd.info) = dep e := (by rw [hzs]; have := pre_mx e 1; omega); have hl2 : zs.length = sz e := (by rw [← pre_len e 1, ← hzs, List.length_map]); have hlz : (pre 1 e).length = sz e := pre_len e 1; have HV : Hid (vld e = if 24 < dep e ∨ 400 < sz e then 2 else 0) := Lib.hid (by unfold vld vldL; rw [← hzs, if_pos hf1, hl, List.length_map, hl2]); have HBW := Lib.hid (hB0.trans hB1); rw [hl] at bD1; rw [hl2] at bS1; have cS := bS1.cell; have cD := bD1.cell; have cR := bR1.cell; have fR := bR1.frozen; have HK := Lib.hid hK; clear bS1 bD1 hl hl2 hzs hf1 hlz hB1; by_cases h1 : 24 < dep e
    · have q1 : decide (24 < (dep e : Int)) = true := (by rw [decide_eq_true_eq]; omega); have HV2 : Hid (vld e = 2) := Lib.hid (by rw [HV.out, if_pos (.inl h1)]); clear h1
      gi_wp2
      have hK' := (KeepsOthers.setCell W ⟨w.heap.size + 1, 0, none⟩ (.int .i64 2)).same D _ HK.out rfl; refine ⟨by simp, .inl ⟨_, _, rfl, run_takeDeferred hK', ?_⟩⟩; have hc5 := cell_kept (World.cell?_setCell_same' W ⟨w.heap.size + 1, 0, none⟩ (.int .i64 2) (by rw [cR]; rfl)) (grownBy_putObj' _ D (.deferred none)) (fun r e => by cases e; exact ⟨_, hK', rfl⟩); refine ⟨.int .i64 2, ?_, by rw [HV2.out], (HBW.out.setCell (p := ⟨w.heap.size + 1, 0, none⟩) (by simp) _).trans (belowK_b (w := w) (Nat.le_refl _) _ D _ _ (by omega) hK' rfl rfl)⟩; simp [results, Tryz.results55, go_sem, hc5]
    · have q1 : decide (24 < (dep e : Int)) = false := (by rw [decide_eq_false_iff_not]; omega); by_cases h2 : 400 < sz e
      · have q2 : decide (400 < (sz e : Int)) = true := (by rw [decide_eq_true_eq]; omega); have HV2 : Hid (vld e = 2) := Lib.hid (by rw [HV.out, if_pos (.inr h2)]); clear h1 h2
        gi_wp2
        have hK' := (KeepsOthers.setCell W ⟨w.heap.size + 1, 0, none⟩ (.int .i64 2)).same D _ HK.out rfl; refine ⟨by simp, .inl ⟨_, _, rfl, run_takeDeferred hK', ?_⟩⟩; have hc5 := cell_kept (World.cell?_setCell_same' W ⟨w.heap.size + 1, 0, none⟩ (.int .i64 2) (by rw [cR]; rfl)) (grownBy_putObj' _ D (.deferred none)) (fun r e => by cases e; exact ⟨_, hK', rfl⟩); refine ⟨.int .i64 2, ?_, by rw [HV2.out], (HBW.out.setCell (p := ⟨w.heap.size + 1, 0, none⟩) (by simp) _).trans (belowK_b (w := w) (Nat.le_refl _) _ D _ _ (by omega) hK' rfl rfl)⟩; simp [results, Tryz.results55, go_sem, hc5]
      · have q2 : decide (400 < (sz e : Int)) = false := (by rw [decide_eq_false_iff_not]; omega); have HV2 : Hid (vld e = 0) := Lib.hid (by rw [HV.out, if_neg (by omega)]); clear h1 h2
        gi_wp2
        have hK' := (KeepsOthers.setCell W ⟨w.heap.size + 1, 0, none⟩ (.int .i64 0)).same D _ HK.out rfl; refine ⟨by simp, .inl ⟨_, _, rfl, run_takeDeferred hK', ?_⟩⟩; have hc5 := cell_kept (World.cell?_setCell_same' W ⟨w.heap.size + 1, 0, none⟩ (.int .i64 0) (by rw [cR]; rfl)) (grownBy_putObj' _ D (.deferred none)) (fun r e => by cases e; exact ⟨_, hK', rfl⟩); refine ⟨.int .i64 0, ?_, by rw [HV2.out], (HBW.out.setCell (p := ⟨w.heap.size + 1, 0, none⟩) (by simp) _).trans (belowK_b (w := w) (Nat.le_refl _) _ D _ _ (by omega) hK' rfl rfl)⟩; simp [results, Tryz.results55, go_sem, hc5]
  case stop =>
    rintro D c bef W hD hpre ⟨⟨bR1, rfl, hne⟩, hB1⟩ hK; have HV : Hid (fstE (bef.map Nd.info) = vld e) := Lib.hid (by
      obtain ⟨r, hr⟩ := hpre; unfold vld vldL; rw [← hr, fst_append, if_neg hne, if_neg hne])
    have HBW := Lib.hid (hB0.trans hB1); have cR := bR1.cell; clear bR1 hne hpre hB1
    gi_wp2
    refine ⟨by simp, .inl ⟨_, _, rfl, run_takeDeferred hK, ?_⟩⟩; have hc5 := cell_kept cR (grownBy_putObj' _ D (.deferred none)) (fun r e => by cases e; exact ⟨_, hK, rfl⟩); refine ⟨.int .i64 (fstE (bef.map Nd.info)), ?_, by rw [HV.out], HBW.out.trans (belowK_b (w := w) (Nat.le_refl _) W D _ _ (by omega) hK rfl rfl)⟩; simp [results, Tryz.results55, go_sem, hc5]
end Go.Proofs.YtpejflgdehioaaaGreatDoor.ExW
namespace Go.Proofs.YtpejflgdehioaaaGreatDoor.ItW
open Go Go.RowKit Go.Proofs.YtpejflgdehioaaaGreatDoor.NumM Go.Proofs.YtpejflgdehioaaaGreatDoor.LexW Go.Proofs.YtpejflgdehioaaaGreatDoor.LexM Go.Proofs.YtpejflgdehioaaaGreatDoor.ExM Go.Proofs.YtpejflgdehioaaaGreatDoor.ExW Go.Proofs.YtpejflgdehioaaaGreatDoor.ItM
structure Blk (w : World) (g : Nat) (xs : List Value) : Prop where
  lt : g < w.heap.size
  c : ∀ (i : Nat) (x : Value), xs[i]? = some x → w.cell? ⟨g, i, none⟩ = some x
  f : ∀ o : Nat, w.frozen? ⟨g, o, none⟩ = false
section
variable {w W0 : World} {g : Nat} {xs : List Value}
theorem Blk.new (w : World) (xs : List Value) (t : TypeId) : Blk (w.alloc (.cells xs.toArray t)) w.heap.size xs := by
  have hb : (w.alloc (.cells xs.toArray t)).heap[w.heap.size]? = some (.cells xs.toArray t) := heap_alloc_new _ _; exact ⟨by simp, fun i x hx => (alloc_cells w xs.toArray t i x (by simpa using hx)).1, fun o => by simp only [World.frozen?, hb]; simp⟩
theorem Blk.at_ {n : Nat} (hn : w.heap.size = n) (xs : List Value) (t : TypeId) : Blk (w.alloc (.cells xs.toArray t)) n xs := by subst hn; exact Blk.new w xs t
theorem Blk.stay (h : Blk W0 g xs) (hb : Below W0.heap.size W0 w) : Blk w g xs :=
  ⟨Nat.lt_of_lt_of_le h.lt hb.size, fun i x hx => (hb.cell (p := ⟨g, i, none⟩) h.lt).trans (h.c i x hx), fun o => (hb.frozen (p := ⟨g, o, none⟩) h.lt).trans (h.f o)⟩
theorem Blk.alloc (h : Blk w g xs) (o : Obj) : Blk (w.alloc o) g xs := h.stay ((Below.refl _ _).alloc (Nat.le_refl _) _)
theorem Blk.far {b o : Nat} {v : Value} (h : Blk w g xs) (hn : g ≠ b) : Blk (w.setCell ⟨b, o, none⟩ v) g xs :=
  ⟨by rw [setCell_size]; exact h.lt, fun i x hx => (World.cell?_setCell_other _ _ _ _ (fun e => hn (congrArg Addr.block e).symm)).trans (h.c i x hx), fun o => by rw [World.frozen?_setCell]; exact h.f o⟩
theorem Blk.set (h : Blk w g xs) (i : Nat) (v : Value) (hi : i < xs.length) : Blk (w.setCell ⟨g, i, none⟩ v) g (xs.set i v) := by
  refine ⟨by rw [setCell_size]; exact h.lt, fun j x hx => ?_, fun o => by rw [World.frozen?_setCell]; exact h.f o⟩; rw [List.getElem?_set] at hx; split at hx
  · rename_i e; subst e; obtain rfl : v = x := (by simpa [hi] using hx); exact cell_set (h.c i _ (List.getElem?_eq_getElem hi))
  · rename_i e; rw [other _ _ e]; exact h.c j x hx
theorem Blk.grown {row : Option Nat} {w' : World} (h : Blk w g xs) (hg : w.grownBy w' row) (hr : some g ≠ row) : Blk w' g xs := by
  have hb := hg.block g h.lt hr; exact ⟨Nat.lt_of_lt_of_le h.lt hg.size, fun i x hx => (World.cell?_of_block (w := w) hb).trans (h.c i x hx), fun o => (World.frozen?_of_block (w := w) hb).trans (h.f o)⟩
end
theorem ba (w : World) (o : Obj) : Below w.heap.size w (w.alloc o) := (Below.refl _ _).alloc (Nat.le_refl _) _
abbrev ics (kd o n : Int) (en : ByteArray) (a4 : Value) (nm ix : ByteArray) (a7 a8 a9 a10 a11 : Value) : List Value :=
  [.int .i64 kd, .int .i64 o, .int .i64 n, .string en, a4, .string nm, .string ix, a7, a8, a9, a10, a11]
theorem isEmp_toList (s : ByteArray) : s.toList.isEmpty = isEmp s := by unfold isEmp; exact str_empty s
theorem isEmpty_len {α : Type} (l : List α) : l.isEmpty = decide (l.length = 0) := by cases l <;> simp
theorem eqB_zE (e : Ex) : eqB e zE = zB e := by
  obtain ⟨o, n, s, ks⟩ := e; unfold zE zB; rw [eqB_mk]; have h1 : eqL ks [] = ks.isEmpty := by
    unfold eqL; rw [Bool.eq_iff_iff]; cases ks <;> simp
  have h2 : (s.toList == (⟨#[]⟩ : ByteArray).toList) = isEmp s := by
    rw [← isEmp_toList, Lib.toList_data ⟨#[]⟩]; cases h : s.toList <;> rfl
  rw [h1, h2]; rfl
end Go.Proofs.YtpejflgdehioaaaGreatDoor.ItW
namespace Go.Proofs.YtpejflgdehioaaaGreatDoor.ExW
open Go Go.RowKit Go.Shelf Go.Proofs.YtpejflgdehioaaaGreatDoor.NumM Go.Proofs.YtpejflgdehioaaaGreatDoor.LexW Go.Proofs.YtpejflgdehioaaaGreatDoor.LexM Go.Proofs.YtpejflgdehioaaaGreatDoor.ExM
attribute [local go_sem] Oper.semAt_some
def nmD (l : List ByteArray) : DataW Unit := l.foldl (fun D s => D.put (.string s.data.toList) (.lit (.bool true))) (.map [])
theorem infoS : (Tryz.prog.info? 9).map (fun i => (i.zero, i.size, i.bytes)) = some (some (.string ⟨#[]⟩), 1, 16) := by kernel_rfl
structure NmI (w : World) (fv : Value) (l : List ByteArray) (n : Nat) (W0 W : World) : Prop where
  list : ∃ v, Boxed W (w.heap.size + 2) 27 v ∧ W.ownsRow w.heap.size 9 1 v l.length (l.map Value.string)
  fn : Boxed W (w.heap.size + 1) 88 fv
  mp : Boxed W (w.heap.size + 4) 67 (.map (some (w.heap.size + 3)))
  map : W.ownsMap Tryz.prog 9 (plainElem (H := Unit) Tryz.prog 4) (w.heap.size + 3) n (nmD l)
  low : Below w.heap.size W0 W
theorem boxed_kept {W W' : World} {B : Nat} {t : TypeId} {v : Value} {row : Option Nat} (h : Boxed W B t v) (hg : W.grownBy W' row) (hr : ∀ r, row = some r → ∃ o : Obj, W.heap[r]? = some o ∧ o.isCells = false) : Boxed W' B t v :=
  h.kept hg (fun e' => by obtain ⟨o, ho, hc⟩ := hr B e'.symm; rw [show W.heap[B]? = _ from h] at ho; cases ho; cases hc)
theorem NmI.kept {w W0 W W' : World} {fv : Value} {l : List ByteArray} {n : Nat} {row : Option Nat} (h : NmI w fv l n W0 W) (hz : w.heap.size + 5 < W0.heap.size) (hg : W.grownBy W' row) (hr : ∀ r, row = some r → W0.heap.size ≤ r ∧ ∃ o : Obj, W.heap[r]? = some o ∧ o.isCells = false) : NmI w fv l n W0 W' := by
  obtain ⟨⟨v, h1, h2⟩, h3, h4, h5, h6⟩ := h; have hr2 := (fun r e => (hr r e).2); obtain ⟨v', q1, q2, _⟩ := holdsRow_own w.heap.size (w.heap.size + 2) 27 9 1 (fun l : List ByteArray => l.length) (fun l => l.map Value.string) (fun _ _ => True) l W W' row ⟨v, h1, h2, trivial⟩ hg hr2; refine ⟨⟨v', q1, q2⟩, boxed_kept h3 hg hr2, boxed_kept h4 hg hr2, h5.kept hg (fun e => by have := (hr _ e.symm).1; omega), h6.grown hg (by have := h6.size; omega) (fun k e => by have := (hr k e).1; omega)⟩
end Go.Proofs.YtpejflgdehioaaaGreatDoor.ExW
namespace Go.Proofs.YtpejflgdehioaaaGreatDoor.ItW
open Go Go.RowKit Go.Proofs.YtpejflgdehioaaaGreatDoor.NumM Go.Proofs.YtpejflgdehioaaaGreatDoor.LexW Go.Proofs.YtpejflgdehioaaaGreatDoor.LexM Go.Proofs.YtpejflgdehioaaaGreatDoor.ExM Go.Proofs.YtpejflgdehioaaaGreatDoor.ExW Go.Proofs.YtpejflgdehioaaaGreatDoor.ItM
theorem own_block {w : World} {B : Nat} {e : TypeId} {size : Nat} {v : Value} {n : Nat} {xs : List Value} (h : w.ownsRow B e size v n xs) : ∀ k, v.ownBlock = some k → B ≤ k := fun k hk => (h.lt k hk).1
theorem own_len {w : World} {base : Nat} {e : TypeId} {size n : Nat} {v : Value} {xs : List Value} (h : w.ownsRow base e size v n xs) : ∃ q c, v = .slice q n c := by
  rcases h.2 with ⟨rfl, rfl⟩ | ⟨g, cap, cur, rfl, _⟩
  · exact ⟨_, _, rfl⟩
  · exact ⟨_, _, rfl⟩
theorem own_later {w w' : World} {B : Nat} {e : TypeId} {size : Nat} {v : Value} {n : Nat} {xs : List Value} (h : w.ownsRow B e size v n xs) (hb : Below w.heap.size w w') : w'.ownsRow B e size v n xs := by
  obtain ⟨hl, h | ⟨g, cap, cur, hv, hB, hg, h1, h2, h3, h4⟩⟩ := h
  · exact ⟨hl, .inl h⟩
  · exact ⟨hl, .inr ⟨g, cap, cur, hv, hB, (hb.block g (Array.getElem?_eq_some_iff.1 hg).1).trans hg, h1, h2, h3, h4⟩⟩
theorem wpList_append_run {P : Program} {w : World} {ops : Array Oper} {rest : List Oper} {o : Oper} {a : Act} {Q : Exit → Act → World → Prop} (hgd : o.guard = none) (s x : Operand) (t tx : TypeId)
    (ho : o.op = .call { callee := .builtin .append, args := #[s, x], argTypes := #[t, tx] }) (sv xv : Value) (hs : a.eval s = sv) (hx : a.eval x = xv) (v' : Value) (w' : World) (hr : ∀ ty, (Builtin.append_ #[t, tx] ty #[sv, xv]).run P w = .ok v' w')
    (h : wpList P ops Q rest (a.put o.dst v') w') : wpList P ops Q (o :: rest) a w := by
  refine (wpList_plain hgd fun K hK => ?_); unfold Oper.wp execOp; simp only [ho, resolve, invoke, builtin, Sem.run_bind, Sem.run_pure, Result.andThen_ok, List.map_toArray, List.map_cons, List.map_nil, hs, hx, hr]; exact hK _ _ h
theorem run_append_nil {P : Program} {w : World} (t ty : TypeId) (base : Nat) (e : TypeId) (i : TypeInfo) (ht : P.underlying t = some (.slice e)) (hi : P.info? e = some i) {v : Value} {n c : Nat} {xs : List Value} (hown : w.ownsRow base e i.size v n xs) :
    (Builtin.append_ #[t, t] ty #[v, .slice none 0 c]).run P w = .ok v w := by
  obtain ⟨_, ⟨hv, hn⟩ | ⟨g, cap, cur, hv, hB, hg, h1, h2, h3, h4⟩⟩ := hown
  · rw [hv]; simp [Builtin.append_, Builtin.lenOf, run_underlying ht, sizeOf, typeInfo, hi, run_firstCells_none]
  · rw [hv]; exact run_append_room_src w t t ty e i ht hi g 0 n cap (.slice none 0 c) 0 [] (Src.ofNil w ht c) (by omega) (fun j hj => by simp at hj) (fun j hj => by simp at hj)
theorem own_StA {W : World} {B : Nat} {v : Value} {l : List ByteArray} (h : W.ownsRow B 9 1 v l.length (l.map Value.string)) (hl : l.length * 16 ≤ 140737488351232) (hs : ∀ s ∈ l, s.size ≤ 140737488351232) : StA W.heap.size W v l := by
  obtain ⟨_, ⟨hv, hn⟩ | ⟨g, cap, cur, hv, hB, hg, hle, _, _, htake⟩⟩ := h
  · exact ⟨none, 0, by rw [hv, hn], hl, by omega, hs, fun x => by omega⟩
  · refine ⟨some ⟨g, 0, none⟩, cap, hv, hl, hle, hs, fun _ => ⟨g, 0, rfl, (Array.getElem?_eq_some_iff.1 hg).1, fun i s hi => ?_⟩⟩; rw [cell_of_row W g _ cur 9 (0, 0) hg, Nat.zero_add]; have hl := (List.getElem?_eq_some_iff.1 hi).1; have : (cur.toList.take (l.length * 1))[i]? = some (.string s) := (by rw [htake, List.getElem?_map, hi]; rfl); rw [List.getElem?_take, if_pos (by omega)] at this
    simpa using this
set_option maxRecDepth 100000 in
set_option maxHeartbeats 4000000 in
theorem grow_any (n : Nat) (w : World) (hn : n ≤ 1000000) :
    Calls Tryz.prog 113 #[.slice none 0 0, .int .i64 n] w fun e w' => ∃ v, e = .returned v ∧ w'.ownsRow w.heap.size 9 1 v 0 [] ∧ Below w.heap.size w w' := by
  obtain ⟨i0, hi, hz0, hz1, hz2⟩ := info_parts infoS; rcases Nat.eq_zero_or_pos n with h | h
  · subst h
    go_enter Tryz.func113, Tryz.ntmps113
    go_wp2; go_ret; exact ⟨_, rfl, World.ownsRow_nil _ _ _ _, Below.refl _ _⟩
  · have hrz : ∀ ty, (Builtin.append_ #[27, 3] ty #[.slice none 0 0, .int .i64 (n : Int)]).run Tryz.prog w = _ := (fun ty => Lib.run_append_grow_zeros w 27 3 ty 9 i0 (.string ⟨#[]⟩) .i64 .i64 Tryz.underlying27 Tryz.underlying3 hi hz0 none 0 0 [] (run_firstCells_none w.drew i0.size 0 0 0) n h (by omega) (by omega) (by omega) (by rw [hz2]; omega) (growslice_fits (by omega) (by rw [hz2]; omega))); simp only [Nat.zero_add] at hrz; obtain ⟨G, hG⟩ : ∃ G, grownCap w n 0 9 = G := ⟨_, rfl⟩; have hge : n ≤ G := (by rw [← hG]; exact grownCap_ge _ _ _ _); have hle : G ≤ 9223372036854775807 := by
      have := grownCap_le_maxLen w n 0 9 (by unfold maxLen; omega); rw [hG] at this; unfold maxLen at this; omega
    rw [hG] at hrz; obtain ⟨C, hC⟩ : ∃ C, (([] : List Value).toArray ++ Builtin.zeroCells (Value.string ⟨#[]⟩).cells n ++ Builtin.zeroCells (Value.string ⟨#[]⟩).cells (G - n)) = C := ⟨_, rfl⟩; have hCs : C.size = G * 1 := by
      rw [← hC]; simp only [Array.size_append, size_zeroCells]; simp [Value.cells]; omega
    rw [hC] at hrz; have HO : Hid ((w.drew.alloc (.cells C 9)).ownsRow w.heap.size 9 1 (.slice (some ⟨w.drew.heap.size, 0, none⟩) 0 G) 0 []) := Lib.hid (World.ownsRow_made w.drew C G (Nat.le_refl _) (by unfold maxLen; omega) hCs); have HB : Hid (Below w.heap.size w (w.drew.alloc (.cells C 9))) := Lib.hid ((Below.refl _ _).drew.alloc (Nat.le_refl _) _); clear hG hC hCs hi hz0 hz1 hz2; have HR := Lib.hid hrz; clear hrz
    go_enter Tryz.func113, Tryz.ntmps113
    go_wp2_with (at_builtin; go_loud (refine wpList_append_run rfl _ _ 27 3 rfl (.slice none 0 0) (.int .i64 (n : Int)) rfl rfl _ _ HR.out ?_))
    go_ret; exact ⟨_, rfl, HO.out, HB.out⟩
def smS (a b : Nat) : Nat → Nat
  | 0 => 0
  | 1 => a
  | _ => a + b
def cxS (f g : List ByteArray) : Nat → List Value
  | 0 => []
  | 1 => f.map Value.string
  | _ => f.map Value.string ++ g.map Value.string
theorem StA.news {N : Nat} {w : World} {ad : Addr} {n c : Nat} {l : List ByteArray} (h : StA N w (.slice (some ad) n c) l) : n = l.length ∧ ∀ W, Below N w W → ∀ j u, (l.map Value.string)[j]? = some u → W.cell? (ad.add j) = some u := by
  obtain ⟨p, cap, e, _, _, _, hp⟩ := h; simp only [Value.slice.injEq] at e; obtain ⟨rfl, rfl, rfl⟩ := e; refine ⟨rfl, fun W hW j u hu => ?_⟩; rw [List.getElem?_map] at hu; obtain ⟨s, hs, rfl⟩ := Option.map_eq_some_iff.1 hu; have hj := (List.getElem?_eq_some_iff.1 hs).1; obtain ⟨b, off, e, hb, hc⟩ := hp (by omega); cases e; have := low_cells hW _ _ hb _ (hc j s hs); rcases Nat.eq_zero_or_pos j with rfl | h0
  · simpa [Addr.add] using this
  · have hj0 : j ≠ 0 := by omega
    simpa [Addr.add, hj0] using this
theorem StA.none_len {N : Nat} {w : World} {n c : Nat} {l : List ByteArray} (h : StA N w (.slice none n c) l) : n = 0 ∧ l = [] := by
  obtain ⟨p, cap, e, _, _, _, hp⟩ := h; simp only [Value.slice.injEq] at e; obtain ⟨rfl, rfl, rfl⟩ := e; rcases Nat.eq_zero_or_pos l.length with h | h
  · exact ⟨h, List.length_eq_zero_iff.1 h⟩
  · obtain ⟨_, _, e, _⟩ := hp h; cases e
theorem one_str (l : List ByteArray) : ∀ u ∈ l.map Value.string, u.oneCell' = true := fun u hu => by
  obtain ⟨s, _, rfl⟩ := List.mem_map.1 hu; rfl
set_option maxRecDepth 100000 in
set_option maxHeartbeats 8000000 in
theorem concatS_any (f g : List ByteArray) (v1 v2 : Value) (a N : Nat) (w : World) (hA : Blk w a [v1, v2]) (h1 : StA N w v1 f) (h2 : StA N w v2 g) (hN : N ≤ w.heap.size) (hl : f.length + g.length ≤ 100000) :
    Calls Tryz.prog 68 #[.slice (some ⟨a, 0, none⟩) 2 2] w fun e w' => ∃ v, e = .returned v ∧ w'.ownsRow w.heap.size 9 1 v (f ++ g).length ((f ++ g).map Value.string) ∧ Below w.heap.size w w' := by
  obtain ⟨i0, hi, hz0, hz1, hz2⟩ := info_parts infoS; have s1 : ∃ p c, v1 = .slice p f.length c := (by obtain ⟨p, c, e, _⟩ := h1; exact ⟨p, c, e⟩); have s2 : ∃ p c, v2 = .slice p g.length c := (by obtain ⟨p, c, e, _⟩ := h2; exact ⟨p, c, e⟩); obtain ⟨p1, c1, rfl⟩ := s1; obtain ⟨p2, c2, rfl⟩ := s2; obtain ⟨n1, hn1⟩ : ∃ n, f.length = n := ⟨_, rfl⟩; obtain ⟨n2, hn2⟩ : ∃ n, g.length = n := ⟨_, rfl⟩; have HN1 := Lib.hid hn1; have HN2 := Lib.hid hn2; rw [hn1] at h1; rw [hn2] at h2; rw [hn1, hn2] at hA hl; have R1 := Lib.hid h1; have R2 := Lib.hid h2; have HA := Lib.hid hA; have q0 := hA.c 0 _ rfl; have q1 := hA.c 1 _ rfl; have hlt := hA.lt; clear hn1 hn2 h1 h2 hA
  go_enter Tryz.func68, Tryz.ntmps68
  go_wp2; go_loop [3, 11] (fun s i => ∃ j : Nat, j ≤ 2 ∧ i = .int .i64 j ∧ s = .int .i64 (smS n1 n2 j)) (fun _ i => 2 - (intOf i).toNat)
  case atStart => exact ⟨0, Nat.zero_le _, rfl, rfl⟩
  case round =>
    obtain ⟨j, hj, rfl, rfl⟩ := hrel; obtain rfl | rfl | rfl : j = 0 ∨ j = 1 ∨ j = 2 := by omega
    · have e0 : smS n1 n2 0 = 0 := rfl; rw [e0]; clear e0; go_wp2; go_round
      case rel => exact ⟨1, by omega, rfl, by simp [smS]⟩
      case measure => simp [intOf]
    · have e0 : smS n1 n2 1 = n1 := rfl; rw [e0]; clear e0; go_wp2; go_round
      case rel => exact ⟨2, by omega, rfl, by simp [smS]⟩
      case measure => simp [intOf]
    · have e0 : smS n1 n2 2 = n1 + n2 := rfl; rw [e0]; clear e0; have GC := Lib.hid (grow_any (n1 + n2) w (by omega)); rw [show ((n1 + n2 : Nat) : Int) = (n1 : Int) + n2 by omega] at GC ⊢; go_wp2_with (go_at_call 113; ((with_reducible refine GC.out.mono ?_); rintro e w2 ⟨v2, rfl, ho, hb⟩; have HO := Lib.hid ho; have HB := Lib.hid hb; have A2 := Lib.hid (HA.out.stay hb); clear ho hb q0 q1))
      go_loopw [6, 27] (fun u i wr => ∃ j : Nat, j ≤ 2 ∧ i = .int .i64 j ∧ Hid (wr.ownsRow w.heap.size 9 1 u (smS n1 n2 j) (cxS f g j)) ∧ Hid (Below w.heap.size w wr)) (fun _ i _ => 2 - (intOf i).toNat)
      case atStart => exact ⟨0, Nat.zero_le _, rfl, HO, HB⟩
      case round =>
        obtain ⟨j, hj, rfl, OW, BW⟩ := hrel; have AW := HA.out.stay BW.out; have q0 := AW.c 0 _ rfl; have q1 := AW.c 1 _ rfl; clear AW; obtain ⟨qp, qc, rfl⟩ := own_len OW.out; obtain rfl | rfl | rfl : j = 0 ∨ j = 1 ∨ j = 2 := by omega
        · have O0 : Hid (wr.ownsRow w.heap.size 9 1 (.slice qp 0 qc) 0 []) := OW; have e0 : smS n1 n2 0 = 0 := rfl; rw [e0]; clear e0 OW; cases p1 with
          | none =>
            obtain ⟨hk, hk2⟩ := R1.out.none_len; have RN : Hid (∀ ty, (Builtin.append_ #[27, 27] ty #[.slice qp 0 qc, .slice none n1 c1]).run Tryz.prog wr = .ok (.slice qp 0 qc) wr) := Lib.hid (fun ty => by rw [hk]; exact run_append_nil 27 ty w.heap.size 9 i0 Tryz.underlying27 hi (by rw [hz1]; exact O0.out)); have O1 : Hid (wr.ownsRow w.heap.size 9 1 (.slice qp 0 qc) n1 (f.map Value.string)) := Lib.hid (by rw [hk, hk2]; exact O0.out); clear hk hk2; go_wp2_with (at_builtin; go_loud (refine wpList_append_run rfl _ _ 27 27 rfl _ _ rfl rfl _ _ RN.out ?_))
            go_roundw
            case rel => exact ⟨1, by omega, rfl, O1, BW⟩
            case measure => simp [intOf]
          | some ad =>
            have NS := R1.out.news.2 wr (BW.out.mono hN); have N1 := one_str f; have hfl : (f.map Value.string).length = n1 * 1 := (by rw [List.length_map, HN1.out, Nat.mul_one]); have HNS := Lib.hid NS; clear NS; go_wp2_with (at_builtin; go_loud (refine wpList_append_own _ rfl _ _ 27 rfl w.heap.size 9 i0 (.string ⟨#[]⟩) 1 16 Tryz.underlying27 hi hz0 hz1 hz2 rfl (by decide) _ 0 [] rfl O0.out ad n1 c1 (f.map Value.string) rfl hfl HNS.out N1 (by unfold maxLen; omega) (by omega) BW.out.size ?_); go_loud (intro v' w3 hown' hgrow _; have O3 := Lib.hid hown'; have B3 := Lib.hid (BW.out.grown hgrow BW.out.size (own_block O0.out)); clear hown' hgrow))
            go_roundw
            case rel => exact ⟨1, by omega, rfl, Lib.hid (by have := O3.out; rw [Nat.zero_add, List.nil_append] at this; exact this), B3⟩
            case measure => simp [intOf]
        · have O0 : Hid (wr.ownsRow w.heap.size 9 1 (.slice qp n1 qc) n1 (f.map Value.string)) := OW; have e0 : smS n1 n2 1 = n1 := rfl; rw [e0]; clear e0 OW; cases p2 with
          | none =>
            obtain ⟨hk, hk2⟩ := R2.out.none_len; have RN : Hid (∀ ty, (Builtin.append_ #[27, 27] ty #[.slice qp n1 qc, .slice none n2 c2]).run Tryz.prog wr = .ok (.slice qp n1 qc) wr) := Lib.hid (fun ty => by rw [hk]; exact run_append_nil 27 ty w.heap.size 9 i0 Tryz.underlying27 hi (by rw [hz1]; exact O0.out)); have O1 : Hid (wr.ownsRow w.heap.size 9 1 (.slice qp n1 qc) (n1 + n2) (f.map Value.string ++ g.map Value.string)) := Lib.hid (by rw [hk, hk2, Nat.add_zero, List.map_nil, List.append_nil]; exact O0.out); clear hk hk2; go_wp2_with (at_builtin; go_loud (refine wpList_append_run rfl _ _ 27 27 rfl _ _ rfl rfl _ _ RN.out ?_))
            go_roundw
            case rel => exact ⟨2, by omega, rfl, O1, BW⟩
            case measure => simp [intOf]
          | some ad =>
            have NS := R2.out.news.2 wr (BW.out.mono hN); have N1 := one_str g; have hfl : (g.map Value.string).length = n2 * 1 := (by rw [List.length_map, HN2.out, Nat.mul_one]); have HNS := Lib.hid NS; clear NS; go_wp2_with (at_builtin; go_loud (refine wpList_append_own _ rfl _ _ 27 rfl w.heap.size 9 i0 (.string ⟨#[]⟩) 1 16 Tryz.underlying27 hi hz0 hz1 hz2 rfl (by decide) _ n1 (f.map Value.string) rfl O0.out ad n2 c2 (g.map Value.string) rfl hfl HNS.out N1 (by unfold maxLen; omega) (by omega) BW.out.size ?_); go_loud (intro v' w3 hown' hgrow _; have O3 := Lib.hid hown'; have B3 := Lib.hid (BW.out.grown hgrow BW.out.size (own_block O0.out)); clear hown' hgrow))
            go_roundw
            case rel => exact ⟨2, by omega, rfl, O3, B3⟩
            case measure => simp [intOf]
        · have O0 : Hid (wr.ownsRow w.heap.size 9 1 (.slice qp (n1 + n2) qc) (n1 + n2) (f.map Value.string ++ g.map Value.string)) := OW; have e0 : smS n1 n2 2 = n1 + n2 := rfl; rw [e0]; clear e0 OW q0 q1; go_wp2; go_ret; exact ⟨_, rfl, by rw [List.length_append, HN1.out, HN2.out, List.map_append]; exact O0.out, BW.out⟩
end Go.Proofs.YtpejflgdehioaaaGreatDoor.ItW
namespace Go.Proofs.YtpejflgdehioaaaGreatDoor.ExW
open Go Go.RowKit Go.Proofs.YtpejflgdehioaaaGreatDoor.NumM Go.Proofs.YtpejflgdehioaaaGreatDoor.LexW Go.Proofs.YtpejflgdehioaaaGreatDoor.LexM Go.Proofs.YtpejflgdehioaaaGreatDoor.ExM
inductive ExS (S : Nat → Prop) (w : World) : Value → Ex → Prop where
  | mk {o n : Int} {s : ByteArray} {ks : List Ex} {p : Option Addr} {cap : Nat} (pl : Nat → Option Addr) (cl : Nat → Nat)
      (hs : s.size ≤ 140737488351232) (hl : ks.length ≤ 140737488351232) (hc : ks.length ≤ cap)
      (hp : 0 < ks.length → ∃ b off, p = some ⟨b, off, none⟩ ∧ S b ∧ ∀ i a, ks[i]? = some a →
        w.cell? ⟨b, off + i * 4, none⟩ = some (.int .i64 a.op) ∧ w.cell? ⟨b, off + i * 4 + 1, none⟩ = some (.int .i64 a.n) ∧ w.cell? ⟨b, off + i * 4 + 2, none⟩ = some (.string a.nm) ∧ w.cell? ⟨b, off + i * 4 + 3, none⟩ = some (.slice (pl i) a.args.length (cl i)))
      (hx : ∀ i a, ks[i]? = some a → ExS S w (xv a.op a.n a.nm (.slice (pl i) a.args.length (cl i))) a) :
      ExS S w (xv o n s (.slice p ks.length cap)) (.mk o n s ks)
theorem ExS.toAt {S : Nat → Prop} {w : World} {N : Nat} (hS : ∀ b, S b → b < N) {v : Value} {e : Ex} (h : ExS S w v e) : ExAt N w v e := by
  induction h with
  | mk pl cl hs hl hc hp hx ih =>
    refine .mk pl cl hs hl hc (fun h0 => ?_) (fun i a hi => ih i a hi); obtain ⟨b, off, e, hb, hcell⟩ := hp h0; exact ⟨b, off, e, hS b hb, hcell⟩
theorem ExS.kept {S S' : Nat → Prop} {w w' : World} (hS : ∀ b, S b → S' b) (hk : ∀ b o, S b → ∀ v, w.cell? ⟨b, o, none⟩ = some v → w'.cell? ⟨b, o, none⟩ = some v) {v : Value} {e : Ex} (h : ExS S w v e) : ExS S' w' v e := by
  induction h with
  | mk pl cl hs hl hc hp hx ih =>
    refine .mk pl cl hs hl hc (fun h0 => ?_) (fun i a hi => ih i a hi); obtain ⟨b, off, e, hb, hcell⟩ := hp h0; exact ⟨b, off, e, hS b hb, fun i a hi => ⟨hk _ _ hb _ (hcell i a hi).1, hk _ _ hb _ (hcell i a hi).2.1, hk _ _ hb _ (hcell i a hi).2.2.1, hk _ _ hb _ (hcell i a hi).2.2.2⟩⟩
theorem ExS.form {S : Nat → Prop} {w : World} {v : Value} {e : Ex} (h : ExS S w v e) : ∃ p cap, v = xv e.op e.n e.nm (.slice p e.args.length cap) ∧ e.nm.size ≤ 140737488351232 ∧ e.args.length ≤ cap := by
  cases h with
  | mk pl cl hs hl hc hp hx => exact ⟨_, _, rfl, hs, hc⟩
abbrev Fr (lo : Nat) (w : World) (v : Value) (e : Ex) : Prop := ExS (fun b => lo ≤ b ∧ b < w.heap.size) w v e
theorem Fr.at_ {lo : Nat} {w : World} {v : Value} {e : Ex} (h : Fr lo w v e) : ExAt w.heap.size w v e := h.toAt (fun _ hb => hb.2)
theorem Fr.later {lo : Nat} {w w' : World} {v : Value} {e : Ex} (h : Fr lo w v e) (hb : Below w.heap.size w w') : Fr lo w' v e :=
  h.kept (fun _ g => ⟨g.1, Nat.lt_of_lt_of_le g.2 hb.size⟩) (fun _ o g _ hv => (hb.cell (p := ⟨_, o, none⟩) g.2).trans hv)
theorem Fr.low {lo lo' : Nat} {w : World} {v : Value} {e : Ex} (h : Fr lo w v e) (hl : lo' ≤ lo) : Fr lo' w v e :=
  h.kept (fun _ g => ⟨Nat.le_trans hl g.1, g.2⟩) (fun _ _ _ _ hv => hv)
theorem Fr.set {lo g o : Nat} {w : World} {u v : Value} {e : Ex} (h : Fr lo w v e) (hg : g < lo) : Fr lo (w.setCell ⟨g, o, none⟩ u) v e :=
  h.kept (fun _ q => ⟨q.1, by rw [setCell_size]; exact q.2⟩) (fun b _ q _ hv => by
    rw [World.cell?_setCell_other _ _ _ _ (fun e => by have := congrArg Addr.block e; simp at this; omega)]; exact hv)
def cellR (a : Ex) (p : Option Addr) (c : Nat) : Nat → Value
  | 0 => .int .i64 a.op
  | 1 => .int .i64 a.n
  | 2 => .string a.nm
  | _ => .slice p a.args.length c
structure RowAt (w : World) (g K : Nat) (F : Nat → Nat → Value) : Prop where
  lt : g < w.heap.size
  cell : ∀ a r, a < K → r < 4 → w.cell? ⟨g, a * 4 + r, none⟩ = some (F a r)
  frz : ∀ o, w.frozen? ⟨g, o, none⟩ = false
theorem RowAt.stay {w w' : World} {g K : Nat} {F : Nat → Nat → Value} (h : RowAt w g K F) (hb : Below w.heap.size w w') : RowAt w' g K F :=
  ⟨Nat.lt_of_lt_of_le h.lt hb.size, fun a r ha hr => (hb.cell (p := ⟨g, a * 4 + r, none⟩) h.lt).trans (h.cell a r ha hr), fun o => (hb.frozen (p := ⟨g, o, none⟩) h.lt).trans (h.frz o)⟩
theorem RowAt.alloc {w : World} {g K : Nat} {F : Nat → Nat → Value} (h : RowAt w g K F) (o : Obj) : RowAt (w.alloc o) g K F := h.stay ((Below.refl _ _).alloc (Nat.le_refl _) _)
theorem RowAt.put {w : World} {g K : Nat} {F : Nat → Nat → Value} (h : RowAt w g K F) {i : Nat} (hi : i < K) (y0 y1 y2 y3 : Value) :
    RowAt ((((w.setCell ⟨g, i * 4, none⟩ y0).setCell ⟨g, i * 4 + 1, none⟩ y1).setCell ⟨g, i * 4 + 2, none⟩ y2).setCell ⟨g, i * 4 + 3, none⟩ y3) g K (fun a r => if a = i then (match r with | 0 => y0 | 1 => y1 | 2 => y2 | _ => y3) else F a r) := by
  have far : ∀ (w : World) (v : Value) {p q : Nat}, p ≠ q → (w.setCell ⟨g, p, none⟩ v).cell? ⟨g, q, none⟩ = w.cell? ⟨g, q, none⟩ := (fun w v p q hn => other w v hn); refine ⟨by simp only [setCell_size]; exact h.lt, fun a r ha hr => ?_, fun o => by simp only [World.frozen?_setCell]; exact h.frz o⟩; have c0 := h.cell i 0 hi (by omega); have c1 := h.cell i 1 hi (by omega); have c2 := h.cell i 2 hi (by omega); have c3 := h.cell i 3 hi (by omega); by_cases e : a = i
  · subst e; simp only [if_true]; match r, hr with
    | 0, _ => rw [far _ _ (by omega), far _ _ (by omega), far _ _ (by omega)]; exact cell_set c0
    | 1, _ => rw [far _ _ (by omega), far _ _ (by omega)]; exact cell_set (by rw [far _ _ (by omega)]; exact c1)
    | 2, _ => rw [far _ _ (by omega)]; exact cell_set (by rw [far _ _ (by omega), far _ _ (by omega)]; exact c2)
    | 3, _ => exact cell_set (by rw [far _ _ (by omega), far _ _ (by omega), far _ _ (by omega)]; exact c3)
  · simp only [if_neg e]; rw [far _ _ (by omega), far _ _ (by omega), far _ _ (by omega), far _ _ (by omega)]; exact h.cell a r ha hr
theorem below_put4 {w0 w : World} {g : Nat} (h : Below w0.heap.size w0 w) (hg : w0.heap.size ≤ g) (i : Nat) (y0 y1 y2 y3 : Value) :
    Below w0.heap.size w0 ((((w.setCell ⟨g, i * 4, none⟩ y0).setCell ⟨g, i * 4 + 1, none⟩ y1).setCell ⟨g, i * 4 + 2, none⟩ y2).setCell ⟨g, i * 4 + 3, none⟩ y3) :=
  (((h.setCell hg _).setCell hg _).setCell hg _).setCell hg _
def exCells (pl : Nat → Option Addr) (cl : Nat → Nat) : Nat → List Ex → List Value
  | _, [] => []
  | i, a :: r => [.int .i64 a.op, .int .i64 a.n, .string a.nm, .slice (pl i) a.args.length (cl i)] ++ exCells pl cl (i + 1) r
theorem exCells_len (pl : Nat → Option Addr) (cl : Nat → Nat) : ∀ (ks : List Ex) (i : Nat), (exCells pl cl i ks).length = ks.length * 4
  | [], _ => rfl
  | a :: r, i => by rw [exCells, List.length_append, exCells_len pl cl r (i + 1)]; simp; omega
theorem exCells_at (pl : Nat → Option Addr) (cl : Nat → Nat) : ∀ (ks : List Ex) (i j r : Nat) (a : Ex), ks[j]? = some a → r < 4 → (exCells pl cl i ks)[j * 4 + r]? = some (cellR a (pl (i + j)) (cl (i + j)) r)
  | [], i, j, r, a, h, _ => by simp at h
  | b :: q, i, 0, r, a, h, hr => by
    obtain rfl : b = a := (by simpa using h); rw [exCells]; match r, hr with
    | 0, _ => rfl
    | 1, _ => rfl
    | 2, _ => rfl
    | 3, _ => rfl
  | b :: q, i, j + 1, r, a, h, hr => by
    rw [exCells, List.getElem?_append_right (by simp; omega)]; have ih := exCells_at pl cl q (i + 1) j r a (by simpa using h) hr; rw [show i + 1 + j = i + (j + 1) by omega] at ih; rw [← ih]
    congr 1
    simp; omega
theorem exCells_one (pl : Nat → Option Addr) (cl : Nat → Nat) : ∀ (ks : List Ex) (i : Nat), ∀ u ∈ exCells pl cl i ks, u.oneCell' = true
  | [], _, u, h => by simp [exCells] at h
  | a :: r, i, u, h => by
    rw [exCells, List.mem_append] at h; rcases h with h | h
    · simp only [List.mem_cons, List.not_mem_nil, or_false] at h; rcases h with rfl | rfl | rfl | rfl <;> rfl
    · exact exCells_one pl cl r (i + 1) u h
theorem infoE : (Tryz.prog.info? 43).map (fun i => (i.zero, i.size, i.bytes)) = some (some (.agg #[.int .i64 0, .int .i64 0, .string ⟨#[]⟩, .slice none 0 0]), 4, 56) := by kernel_rfl
def origF (pl : Nat → Option Addr) (cl : Nat → Nat) (ks : List Ex) (a r : Nat) : Value := match ks[a]? with | some x => cellR x (pl a) (cl a) r | none => .int .i64 0
theorem orig_at {pl : Nat → Option Addr} {cl : Nat → Nat} {ks : List Ex} {a r : Nat} {x : Ex} (h : ks[a]? = some x) : origF pl cl ks a r = cellR x (pl a) (cl a) r := by unfold origF; rw [h]
theorem row_of_own {w : World} {B K : Nat} {v : Value} {pl : Nat → Option Addr} {cl : Nat → Nat} {ks : List Ex} (h : w.ownsRow B 43 4 v K (exCells pl cl 0 ks)) (hK : ks.length = K) :
    ∃ p' cap', v = .slice p' K cap' ∧ K ≤ cap' ∧ (0 < K → ∃ g, p' = some ⟨g, 0, none⟩ ∧ B ≤ g ∧ RowAt w g K (origF pl cl ks)) := by
  obtain ⟨_, ⟨hv, hn⟩ | ⟨g, cap, cur, hv, hB, hg, hle, _, _, htake⟩⟩ := h
  · exact ⟨none, 0, by rw [hv, hn], by omega, fun x => by omega⟩
  · refine ⟨some ⟨g, 0, none⟩, cap, hv, hle, fun _ => ⟨g, rfl, hB, (Array.getElem?_eq_some_iff.1 hg).1, fun a r ha hr => ?_, fun o => by simp [World.frozen?, hg]⟩⟩; obtain ⟨x, hx⟩ : ∃ x, ks[a]? = some x := ⟨_, List.getElem?_eq_getElem (by omega)⟩; rw [orig_at hx, cell_of_row w g _ cur 43 (0, 0) hg]; have q := exCells_at pl cl ks 0 a r x hx hr; rw [Nat.zero_add] at q; rw [← q, ← htake, List.getElem?_take, if_pos (by omega)]; simp
def tClone (K : Nat) (F : Nat → Nat → Value) (w : World) (e : Ending) (w' : World) : Prop :=
  ∃ p' cap', e = .returned (.slice p' K cap') ∧ K ≤ cap' ∧ Below w.heap.size w w' ∧ (0 < K → ∃ g, p' = some ⟨g, 0, none⟩ ∧ w.heap.size ≤ g ∧ RowAt w' g K F)
set_option maxRecDepth 100000 in
set_option maxHeartbeats 4000000 in
theorem sliceClone_any (ks : List Ex) (pl : Nat → Option Addr) (cl : Nat → Nat) (p : Option Addr) (cap : Nat) (w : World) (N : Nat) (ha : ArgsAt N w p cap pl cl ks) (hn : N ≤ w.heap.size) (hk : ks.length ≤ 10000) :
    Calls Tryz.prog 137 #[.slice p ks.length cap] w (tClone ks.length (origF pl cl ks) w) := by
  obtain ⟨i0, hi, hz0, hz1, hz2⟩ := info_parts infoE; obtain ⟨K, hK⟩ : ∃ K, ks.length = K := ⟨_, rfl⟩; have HK := Lib.hid hK; have HA := Lib.hid ha; rw [hK] at hk ⊢; clear hK ha; cases p with
  | none =>
    have hK0 : K = 0 := by
      rcases Nat.eq_zero_or_pos K with h | h
      · exact h
      · obtain ⟨b, off, e, _⟩ := HA.out.hp (by rw [HK.out]; exact h); cases e
    have HK0 := Lib.hid hK0; have he : ∀ W, (binOp .eql 41 (.slice none K cap) (.slice none 0 0)).run Tryz.prog W = .ok (.bool true) W := (fun _ => rfl); clear hK0
    go_enter Tryz.func137, Tryz.ntmps137
    go_wp2; go_ret; exact ⟨none, 0, by rw [HK0.out]; rfl, by rw [HK0.out]; omega, Below.refl _ _, fun h => by rw [HK0.out] at h; omega⟩
  | some ad =>
    have HC : Hid (∀ j u, (exCells pl cl 0 ks)[j]? = some u → w.cell? (ad.add j) = some u) := Lib.hid (by
      intro j u hu; have hj := (List.getElem?_eq_some_iff.1 hu).1; rw [exCells_len] at hj; obtain ⟨b, off, e, hb, hcell⟩ := HA.out.hp (by omega); cases e; obtain ⟨x, hx⟩ : ∃ x, ks[j / 4]? = some x := ⟨_, List.getElem?_eq_getElem (by omega)⟩; have q := exCells_at pl cl ks 0 (j / 4) (j % 4) x hx (by omega); rw [show j / 4 * 4 + j % 4 = j by omega, hu, Nat.zero_add] at q; obtain ⟨c0, c1, c2, c3⟩ := hcell _ _ hx; have ea : (⟨b, off, none⟩ : Addr).add j = ⟨b, off + j / 4 * 4 + j % 4, none⟩ := by
        unfold Addr.add; by_cases h0 : j = 0
        · subst h0; simp
        · simp [h0]; omega
      rw [ea, q]; have hr : j % 4 < 4 := (by omega); generalize j % 4 = r at *
      match r, hr with
      | 0, _ => exact c0
      | 1, _ => exact c1
      | 2, _ => exact c2
      | 3, _ => exact c3)
    have HB1 : Hid (Below w.heap.size w (w.alloc (.cells #[] 43))) := Lib.hid ((Below.refl _ _).alloc (Nat.le_refl _) _); have HO : Hid ((w.alloc (.cells #[] 43)).ownsRow w.heap.size 43 4 (.slice (some ⟨w.heap.size, 0, none⟩) 0 0) 0 []) := Lib.hid ⟨rfl, .inr ⟨w.heap.size, 0, #[], rfl, Nat.le_refl _, heap_alloc_new _ _, Nat.le_refl _, Nat.zero_le _, rfl, rfl⟩⟩; have HL := Lib.hid (exCells_len pl cl ks 0); have HOne := Lib.hid (exCells_one pl cl ks 0); have he : ∀ W, (binOp .eql 41 (.slice (some ad) K cap) (.slice none 0 0)).run Tryz.prog W = .ok (.bool false) W := (fun _ => rfl); have HAL : Hid (∀ j, j < K * 4 → (ad.add j).block < w.heap.size) := Lib.hid (by
      intro j hj; obtain ⟨b, off, e, hb, _⟩ := HA.out.hp (by rw [HK.out]; omega); cases e; have : ((⟨b, off, none⟩ : Addr).add j).block = b := (by unfold Addr.add; split <;> rfl); rw [this]; omega)
    go_enter Tryz.func137, Tryz.ntmps137
    go_wp2_with (at_builtin; go_loud (refine wpList_append_own _ rfl _ _ 41 rfl w.heap.size 43 i0 (.agg #[.int .i64 0, .int .i64 0, .string ⟨#[]⟩, .slice none 0 0]) 4 56 Tryz.underlying41 hi hz0 hz1 hz2 rfl (by decide) _ 0 [] rfl HO.out ad K cap (exCells pl cl 0 ks) rfl (by rw [HL.out, HK.out]) (fun j u hu => (HB1.out.cell (p := ad.add j) (HAL.out j (by have := (List.getElem?_eq_some_iff.1 hu).1; rw [HL.out, HK.out] at this; exact this))).trans (HC.out j u hu)) HOne.out (by unfold maxLen; omega) (by omega) (by simp) ?_); go_loud (intro v' w2 hown' hgrow _; have HO2 := Lib.hid hown'; have HG2 := Lib.hid hgrow; clear hown' hgrow))
    go_ret; have HB2 : Below w.heap.size w w2 := HB1.out.grown HG2.out (by simp) (fun k e => Nat.le_of_eq (by have e' : (Value.slice (some ⟨w.heap.size, 0, none⟩) 0 0).ownBlock = some k := e; simpa [Value.ownBlock] using e')); have hown' := HO2.out; rw [Nat.zero_add, List.nil_append] at hown'; obtain ⟨p', cap', rfl, hcp, hrow⟩ := row_of_own hown' HK.out; exact ⟨p', cap', rfl, hcp, HB2, hrow⟩
end Go.Proofs.YtpejflgdehioaaaGreatDoor.ExW
namespace Go.Proofs.YtpejflgdehioaaaGreatDoor.ItW
open Go Go.RowKit Go.Proofs.YtpejflgdehioaaaGreatDoor.NumM Go.Proofs.YtpejflgdehioaaaGreatDoor.LexW Go.Proofs.YtpejflgdehioaaaGreatDoor.LexM Go.Proofs.YtpejflgdehioaaaGreatDoor.ExM Go.Proofs.YtpejflgdehioaaaGreatDoor.ExW Go.Proofs.YtpejflgdehioaaaGreatDoor.ItM
def StS (S : Nat → Prop) (w : World) (v : Value) (l : List ByteArray) : Prop :=
  ∃ p cap, v = .slice p l.length cap ∧ l.length * 16 ≤ 140737488351232 ∧ l.length ≤ cap ∧ (∀ s ∈ l, s.size ≤ 140737488351232) ∧
    (0 < l.length → ∃ b off, p = some ⟨b, off, none⟩ ∧ S b ∧ ∀ (i : Nat) (s : ByteArray), l[i]? = some s → w.cell? ⟨b, off + i, none⟩ = some (.string s))
def WtS (S : Nat → Prop) (w : World) (v : Value) (l : List Wt) : Prop :=
  ∃ p cap, v = .slice p l.length cap ∧ l.length * 32 ≤ 140737488351232 ∧ l.length ≤ cap ∧
    (0 < l.length → ∃ b off, p = some ⟨b, off, none⟩ ∧ S b ∧ ∀ (i : Nat) (t : Wt), l[i]? = some t → w.cell? ⟨b, off + i * 4, none⟩ = some (.int .i64 t.lo) ∧ w.cell? ⟨b, off + i * 4 + 1, none⟩ = some (.int .i64 t.hi) ∧
      w.cell? ⟨b, off + i * 4 + 2, none⟩ = some (.int .i64 t.wt) ∧ w.cell? ⟨b, off + i * 4 + 3, none⟩ = some (.bool t.ea))
theorem StS.kept {S S' : Nat → Prop} {w w' : World} (hS : ∀ b, S b → S' b) (hk : ∀ b o, S b → ∀ v, w.cell? ⟨b, o, none⟩ = some v → w'.cell? ⟨b, o, none⟩ = some v) {v : Value} {l : List ByteArray} (h : StS S w v l) : StS S' w' v l := by
  obtain ⟨p, cap, e, h1, h2, h3, h4⟩ := h; exact ⟨p, cap, e, h1, h2, h3, fun h0 => by obtain ⟨b, off, e, hb, hc⟩ := h4 h0; exact ⟨b, off, e, hS b hb, fun i s hi => hk _ _ hb _ (hc i s hi)⟩⟩
theorem WtS.kept {S S' : Nat → Prop} {w w' : World} (hS : ∀ b, S b → S' b) (hk : ∀ b o, S b → ∀ v, w.cell? ⟨b, o, none⟩ = some v → w'.cell? ⟨b, o, none⟩ = some v) {v : Value} {l : List Wt} (h : WtS S w v l) : WtS S' w' v l := by
  obtain ⟨p, cap, e, h1, h2, h4⟩ := h; exact ⟨p, cap, e, h1, h2, fun h0 => by obtain ⟨b, off, e, hb, hc⟩ := h4 h0; exact ⟨b, off, e, hS b hb, fun i s hi => ⟨hk _ _ hb _ (hc i s hi).1, hk _ _ hb _ (hc i s hi).2.1, hk _ _ hb _ (hc i s hi).2.2.1, hk _ _ hb _ (hc i s hi).2.2.2⟩⟩⟩
theorem StS.toAt {S : Nat → Prop} {w : World} {N : Nat} (hS : ∀ b, S b → b < N) {v : Value} {l : List ByteArray} (h : StS S w v l) : StA N w v l := h.kept (S' := fun b => b < N) hS (fun _ _ _ _ hv => hv)
theorem WtS.toAt {S : Nat → Prop} {w : World} {N : Nat} (hS : ∀ b, S b → b < N) {v : Value} {l : List Wt} (h : WtS S w v l) : WtA N w v l := h.kept (S' := fun b => b < N) hS (fun _ _ _ _ hv => hv)
theorem StS.nil (S : Nat → Prop) (w : World) : StS S w (.slice none 0 0) [] := ⟨none, 0, rfl, by simp, by simp, fun _ h => (by cases h), fun h => by simp at h⟩
theorem WtS.nil (S : Nat → Prop) (w : World) : WtS S w (.slice none 0 0) [] := ⟨none, 0, rfl, by simp, by simp, fun h => by simp at h⟩
abbrev Up (lo : Nat) (w : World) : Nat → Prop := fun b => lo ≤ b ∧ b < w.heap.size
theorem flat_len {α : Type} {f : α → List Value} {k : Nat} (hf : ∀ a, (f a).length = k) (l : List α) : (l.flatMap f).length = l.length * k := by
  induction l with
  | nil => simp
  | cons a r ih => rw [List.flatMap_cons, List.length_append, hf, ih, List.length_cons, Nat.succ_mul]; omega
theorem flat_at {α : Type} {f : α → List Value} {k : Nat} (hf : ∀ a, (f a).length = k) (l : List α) (j r : Nat) (a : α) (h : l[j]? = some a) (hr : r < k) : (l.flatMap f)[j * k + r]? = (f a)[r]? := by
  induction l generalizing j with
  | nil => simp at h
  | cons b q ih =>
    rw [List.flatMap_cons]; cases j with
    | zero =>
      obtain rfl : b = a := (by simpa using h); rw [Nat.zero_mul, Nat.zero_add, List.getElem?_append_left (by rw [hf]; exact hr)]
    | succ j =>
      rw [List.getElem?_append_right (by rw [hf, Nat.succ_mul]; omega), hf, show (j + 1) * k + r - k = j * k + r by rw [Nat.succ_mul]; omega]; exact ih j (by simpa using h)
def wtC (t : Wt) : List Value := [.int .i64 t.lo, .int .i64 t.hi, .int .i64 t.wt, .bool t.ea]
theorem wtC_len (t : Wt) : (wtC t).length = 4 := rfl
theorem one_wt (l : List Wt) : ∀ u ∈ l.flatMap wtC, u.oneCell' = true := fun u hu => by
  obtain ⟨t, _, h⟩ := List.mem_flatMap.1 hu; simp only [wtC, List.mem_cons, List.not_mem_nil, or_false] at h; rcases h with rfl | rfl | rfl | rfl <;> rfl
theorem add_at (b off j : Nat) : (⟨b, off, none⟩ : Addr).add j = ⟨b, off + j, none⟩ := by
  unfold Addr.add; by_cases h : j = 0
  · subst h; simp
  · simp [h]
theorem WtA.news {N : Nat} {w : World} {ad : Addr} {n c : Nat} {l : List Wt} (h : WtA N w (.slice (some ad) n c) l) : n = l.length ∧ ∀ W, Below N w W → ∀ j u, (l.flatMap wtC)[j]? = some u → W.cell? (ad.add j) = some u := by
  obtain ⟨p, cap, e, _, _, hp⟩ := h; simp only [Value.slice.injEq] at e; obtain ⟨rfl, rfl, rfl⟩ := e; refine ⟨rfl, fun W hW j u hu => ?_⟩; have hj := (List.getElem?_eq_some_iff.1 hu).1; rw [flat_len wtC_len] at hj; obtain ⟨b, off, e, hb, hc⟩ := hp (by omega); cases e; obtain ⟨x, hx⟩ : ∃ x, l[j / 4]? = some x := ⟨_, List.getElem?_eq_getElem (by omega)⟩; have q := flat_at wtC_len l (j / 4) (j % 4) x hx (by omega); rw [show j / 4 * 4 + j % 4 = j by omega, hu] at q; obtain ⟨c0, c1, c2, c3⟩ := hc _ _ hx; rw [add_at, show off + j = off + j / 4 * 4 + j % 4 by omega]; have hr : j % 4 < 4 := (by omega); generalize j % 4 = r at *
  rw [q]; match r, hr with
  | 0, _ => exact low_cells hW _ _ hb _ c0
  | 1, _ => exact low_cells hW _ _ hb _ c1
  | 2, _ => exact low_cells hW _ _ hb _ c2
  | 3, _ => exact low_cells hW _ _ hb _ c3
theorem WtA.none_len {N : Nat} {w : World} {n c : Nat} {l : List Wt} (h : WtA N w (.slice none n c) l) : n = 0 ∧ l = [] := by
  obtain ⟨p, cap, e, _, _, hp⟩ := h; simp only [Value.slice.injEq] at e; obtain ⟨rfl, rfl, rfl⟩ := e; rcases Nat.eq_zero_or_pos l.length with h | h
  · exact ⟨h, List.length_eq_zero_iff.1 h⟩
  · obtain ⟨_, _, e, _⟩ := hp h; cases e
theorem own_at {W : World} {B k n : Nat} {t : TypeId} {v : Value} {xs : List Value} (h : W.ownsRow B t k v n xs) (hx : xs.length = n * k) : ∃ p cap, v = .slice p n cap ∧ n ≤ cap ∧ (0 < n → ∃ g, p = some ⟨g, 0, none⟩ ∧ (B ≤ g ∧ g < W.heap.size) ∧ v.ownBlock = some g ∧ ∀ (o : Nat) (u : Value), xs[o]? = some u → W.cell? ⟨g, o, none⟩ = some u) := by
  obtain ⟨_, ⟨hv, hn⟩ | ⟨g, cap, cur, hv, hB, hg, hle, _, _, htake⟩⟩ := h
  · exact ⟨none, 0, by rw [hv, hn], by omega, fun x => by omega⟩
  · refine ⟨some ⟨g, 0, none⟩, cap, hv, hle, fun _ => ⟨g, rfl, ⟨hB, (Array.getElem?_eq_some_iff.1 hg).1⟩, by rw [hv]; rfl, fun o u hu => ?_⟩⟩; rw [cell_of_row W g _ cur t (0, 0) hg]; have hl := (List.getElem?_eq_some_iff.1 hu).1; rw [hx] at hl; have : (cur.toList.take (n * k))[o]? = some u := (by rw [htake, hu]); rw [List.getElem?_take, if_pos hl] at this
    simpa using this
theorem own_StS {W : World} {B : Nat} {v : Value} {l : List ByteArray} (h : W.ownsRow B 9 1 v l.length (l.map Value.string)) (hl : l.length * 16 ≤ 140737488351232) (hs : ∀ s ∈ l, s.size ≤ 140737488351232) : StS (Up B W) W v l := by
  obtain ⟨p, cap, rfl, hc, h0⟩ := own_at h (by simp); refine ⟨p, cap, rfl, hl, hc, hs, fun hp => ?_⟩; obtain ⟨g, rfl, hb, _, hcell⟩ := h0 hp; exact ⟨g, 0, rfl, hb, fun i s hi => by rw [Nat.zero_add]; exact hcell i _ (by rw [List.getElem?_map, hi]; rfl)⟩
theorem own_WtS {W : World} {B : Nat} {v : Value} {l : List Wt} (h : W.ownsRow B 130 4 v l.length (l.flatMap wtC)) (hl : l.length * 32 ≤ 140737488351232) : WtS (Up B W) W v l := by
  obtain ⟨p, cap, rfl, hc, h0⟩ := own_at h (flat_len wtC_len l); refine ⟨p, cap, rfl, hl, hc, fun hp => ?_⟩; obtain ⟨g, rfl, hb, _, hcell⟩ := h0 hp; refine ⟨g, 0, rfl, hb, fun i t hi => ?_⟩; rw [Nat.zero_add]; have q := (fun r hr => flat_at wtC_len l i r t hi hr); exact ⟨hcell _ _ (q 0 (by decide)), hcell _ _ (q 1 (by decide)), hcell _ _ (q 2 (by decide)), hcell _ _ (q 3 (by decide))⟩
def tSt (l : List ByteArray) (w : World) (e : Ending) (w' : World) : Prop := ∃ v, e = .returned v ∧ StS (Up w.heap.size w') w' v l ∧ Below w.heap.size w w'
def tWt (l : List Wt) (w : World) (e : Ending) (w' : World) : Prop := ∃ v, e = .returned v ∧ WtS (Up w.heap.size w') w' v l ∧ Below w.heap.size w w'
theorem infoWt : (Tryz.prog.info? 130).map (fun i => (i.zero, i.size, i.bytes)) = some (some (.agg #[.int .i64 0, .int .i64 0, .int .i64 0, .bool false]), 4, 32) := by kernel_rfl
set_option maxRecDepth 100000 in
set_option maxHeartbeats 4000000 in
theorem cloneSt_any (l : List ByteArray) (v : Value) (N : Nat) (w : World) (h : StA N w v l) (hN : N ≤ w.heap.size) :
    Calls Tryz.prog 172 #[v] w (tSt l w) := by
  obtain ⟨i0, hi, hz0, hz1, hz2⟩ := info_parts infoS; have h2 := h; obtain ⟨p, cap, rfl, hl, hc, hs, _⟩ := h; have HS := Lib.hid hs; have HR := Lib.hid h2; have HL := Lib.hid hl; obtain ⟨K, hK⟩ : ∃ K, l.length = K := ⟨_, rfl⟩; have HK := Lib.hid hK; rw [hK] at hl h2 ⊢; have hk : K ≤ 140737488351232 := (by omega); cases p with
  | none =>
    obtain ⟨h1, h3⟩ := h2.none_len; have H3 := Lib.hid h3; have he : ∀ W, (binOp .eql 27 (.slice none K cap) (.slice none 0 0)).run Tryz.prog W = .ok (.bool true) W := (fun _ => rfl); clear h1 h3 hK h2 hs hc
    go_enter Tryz.func172, Tryz.ntmps172
    go_wp2; go_ret; exact ⟨_, rfl, by rw [H3.out]; exact StS.nil _ _, Below.refl _ _⟩
  | some ad =>
    have HNS := Lib.hid h2.news.2; have N1 := Lib.hid (one_str l); have hfl : Hid ((l.map Value.string).length = K * 1) := Lib.hid (by rw [List.length_map, hK, Nat.mul_one]); have HB1 : Hid (Below w.heap.size w (w.alloc (.cells #[] 9))) := Lib.hid (ba w _); have HO : Hid ((w.alloc (.cells #[] 9)).ownsRow w.heap.size 9 1 (.slice (some ⟨w.heap.size, 0, none⟩) 0 0) 0 []) := Lib.hid ⟨rfl, .inr ⟨w.heap.size, 0, #[], rfl, Nat.le_refl _, heap_alloc_new _ _, Nat.le_refl _, Nat.zero_le _, rfl, rfl⟩⟩; have he : ∀ W, (binOp .eql 27 (.slice (some ad) K cap) (.slice none 0 0)).run Tryz.prog W = .ok (.bool false) W := (fun _ => rfl); clear hK h2 hs hc
    go_enter Tryz.func172, Tryz.ntmps172
    go_wp2_with (at_builtin; go_loud (refine wpList_append_own _ rfl _ _ 27 rfl w.heap.size 9 i0 (.string ⟨#[]⟩) 1 16 Tryz.underlying27 hi hz0 hz1 hz2 rfl (by decide) _ 0 [] rfl HO.out ad K cap (l.map Value.string) rfl hfl.out (HNS.out _ (HB1.out.mono hN)) N1.out (by unfold maxLen; omega) (by omega) (by simp) ?_); go_loud (intro v' w2 hown' hgrow _; have HO2 := Lib.hid hown'; have HG2 := Lib.hid hgrow; clear hown' hgrow))
    go_ret; have HB2 : Below w.heap.size w w2 := HB1.out.grown HG2.out (by simp) (fun k e => Nat.le_of_eq (by have e' : (Value.slice (some ⟨w.heap.size, 0, none⟩) 0 0).ownBlock = some k := e; simpa [Value.ownBlock] using e')); have hown' := HO2.out; rw [Nat.zero_add, List.nil_append] at hown'; exact ⟨_, rfl, own_StS (by rw [HK.out]; exact hown') HL.out HS.out, HB2⟩
set_option maxRecDepth 100000 in
set_option maxHeartbeats 4000000 in
theorem cloneWt_any (l : List Wt) (v : Value) (N : Nat) (w : World) (h : WtA N w v l) (hN : N ≤ w.heap.size) :
    Calls Tryz.prog 171 #[v] w (tWt l w) := by
  obtain ⟨i0, hi, hz0, hz1, hz2⟩ := info_parts infoWt; have h2 := h; obtain ⟨p, cap, rfl, hl, hc, _⟩ := h; have HR := Lib.hid h2; have HL := Lib.hid hl; obtain ⟨K, hK⟩ : ∃ K, l.length = K := ⟨_, rfl⟩; have HK := Lib.hid hK; rw [hK] at hl h2 ⊢; have hk : K ≤ 140737488351232 := (by omega); cases p with
  | none =>
    obtain ⟨h1, h3⟩ := h2.none_len; have H3 := Lib.hid h3; have he : ∀ W, (binOp .eql 53 (.slice none K cap) (.slice none 0 0)).run Tryz.prog W = .ok (.bool true) W := (fun _ => rfl); clear h1 h3 hK h2 hc
    go_enter Tryz.func171, Tryz.ntmps171
    go_wp2; go_ret; exact ⟨_, rfl, by rw [H3.out]; exact WtS.nil _ _, Below.refl _ _⟩
  | some ad =>
    have HNS := Lib.hid h2.news.2; have N1 := Lib.hid (one_wt l); have hfl : Hid ((l.flatMap wtC).length = K * 4) := Lib.hid (by rw [flat_len wtC_len, hK]); have HB1 : Hid (Below w.heap.size w (w.alloc (.cells #[] 130))) := Lib.hid (ba w _); have HO : Hid ((w.alloc (.cells #[] 130)).ownsRow w.heap.size 130 4 (.slice (some ⟨w.heap.size, 0, none⟩) 0 0) 0 []) := Lib.hid ⟨rfl, .inr ⟨w.heap.size, 0, #[], rfl, Nat.le_refl _, heap_alloc_new _ _, Nat.le_refl _, Nat.zero_le _, rfl, rfl⟩⟩; have he : ∀ W, (binOp .eql 53 (.slice (some ad) K cap) (.slice none 0 0)).run Tryz.prog W = .ok (.bool false) W := (fun _ => rfl); clear hK h2 hc
    go_enter Tryz.func171, Tryz.ntmps171
    go_wp2_with (at_builtin; go_loud (refine wpList_append_own _ rfl _ _ 53 rfl w.heap.size 130 i0 (.agg #[.int .i64 0, .int .i64 0, .int .i64 0, .bool false]) 4 32 Tryz.underlying53 hi hz0 hz1 hz2 rfl (by decide) _ 0 [] rfl HO.out ad K cap (l.flatMap wtC) rfl hfl.out (HNS.out _ (HB1.out.mono hN)) N1.out (by unfold maxLen; omega) (by omega) (by simp) ?_); go_loud (intro v' w2 hown' hgrow _; have HO2 := Lib.hid hown'; have HG2 := Lib.hid hgrow; clear hown' hgrow))
    go_ret; have HB2 : Below w.heap.size w w2 := HB1.out.grown HG2.out (by simp) (fun k e => Nat.le_of_eq (by have e' : (Value.slice (some ⟨w.heap.size, 0, none⟩) 0 0).ownBlock = some k := e; simpa [Value.ownBlock] using e')); have hown' := HO2.out; rw [Nat.zero_add, List.nil_append] at hown'; exact ⟨_, rfl, own_WtS (by rw [HK.out]; exact hown') HL.out, HB2⟩
end Go.Proofs.YtpejflgdehioaaaGreatDoor.ItW
