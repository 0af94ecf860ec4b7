/-
  Laws that the card uses; no conditions beside those that each states (ExShape ExValid ItBlk ItNodes ItFields ItCut ItChk).
-/
import Derived.Shelf.Strconv.ErrVarAll
import Derived.Test.YtpejflgdehioaaaGreatDoorR05
namespace Go.Proofs.YtpejflgdehioaaaGreatDoor.ExW
open Go Go.RowKit Go.Shelf Go.Proofs.YtpejflgdehioaaaGreatDoor.LexW Go.Proofs.YtpejflgdehioaaaGreatDoor.LexM Go.Proofs.YtpejflgdehioaaaGreatDoor.ExM
attribute [local go_sem] Oper.semAt_some
theorem keep_t {n₀ n₁ : Nat} {A B C : World} (h : Keep n₀ n₁ A B) (k : Keep n₀ n₁ B C) : Keep n₀ n₁ A C := h.trans k
theorem keep_b {n₀ n₁ : Nat} {w : World} (W : World) (l : Nat) (o o' : Obj) (_ : w.heap.size ≤ l) (h : W.heap[l]? = some o) (hc : o.isCells = false) (_ : o.isWalk = false) : Keep n₀ n₁ W (W.putObj l o') := Keep.putObj W l o o' h hc
theorem zip2 (a b : Nat) (u v : Value) (t : Array Value) : Array.foldl (fun t (x : Tmp × Value) => t.setIfInBounds x.1 x.2) t ((#[a, b] : Array Tmp).zip #[u, v]) = (t.setIfInBounds a u).setIfInBounds b v := by
  simp [Array.zip, Array.zipWith, Array.zipWithMAux]
end Go.Proofs.YtpejflgdehioaaaGreatDoor.ExW
namespace Go.Proofs.YtpejflgdehioaaaGreatDoor.ExW
open Go Go.RowKit Go.Shelf Go.Proofs.YtpejflgdehioaaaGreatDoor.NumM Go.Proofs.YtpejflgdehioaaaGreatDoor.LexW Go.Proofs.YtpejflgdehioaaaGreatDoor.LexM Go.Proofs.YtpejflgdehioaaaGreatDoor.ExM
attribute [local go_sem] Oper.semAt_some
theorem four_own (B g : Nat) (x0 x1 x2 x3 : Value) : OwnFrom B (fun (_ : Unit) W => Four W g x0 x1 x2 x3) := fun _ X _ row hs hg hr => by
  have hne : some g ≠ row := fun e => by
    obtain ⟨_, ob, ho, hc⟩ := hr g e.symm; have := hs.c0; simp only [World.cell?, ho] at this; cases ob <;> simp_all [Obj.isCells]
  have hb := hg.block g hs.lt hne; exact ⟨Nat.lt_of_lt_of_le hs.lt hg.size, (World.cell?_of_block (w := X) hb).trans hs.c0, (World.cell?_of_block (w := X) hb).trans hs.c1, (World.cell?_of_block (w := X) hb).trans hs.c2, (World.cell?_of_block (w := X) hb).trans hs.c3,
    (World.frozen?_of_block (w := X) hb).trans hs.f0, (World.frozen?_of_block (w := X) hb).trans hs.f1, (World.frozen?_of_block (w := X) hb).trans hs.f2, (World.frozen?_of_block (w := X) hb).trans hs.f3⟩
theorem bxStay {W W' : World} {B : Nat} {t : TypeId} {v : Value} (h : Boxed W B t v) (hb : Below W.heap.size W W') : Boxed W' B t v := (hb.block B h.lt).trans h
theorem keepsFrom_below {B : Nat} {W W' : World} (h : Below W.heap.size W W') : KeepsFrom B W W' :=
  ⟨h.size, fun k _ _ hk _ => (h.block k (Array.getElem?_eq_some_iff.1 hk).1).trans hk⟩
set_option maxRecDepth 100000 in
set_option maxHeartbeats 8000000 in
theorem valid_any (e : Ex) (v : Value) (w : World) (hx : ExAt w.heap.size w v e) (hsz : sz e ≤ 10000) (ht : Tab w) :
    Calls Tryz.prog 55 #[v] w (tInt (vld e) w) := by
  obtain ⟨p, cap, pl, cl, rfl, hs, ha⟩ := hx.form; have HX := Lib.hid hx; have HT := Lib.hid ht; clear hx ha ht; generalize e.op = o at *
  generalize e.n = num at *
  generalize e.nm = s at *
  generalize e.args.length = K at *
  refine (callsIn_wide (n := 9)).1 ?_; refine callsIn_of_wp_marks Tryz.func55 rfl trivial ?_ rfl; simp only [Tryz.ntmps55, List.size_toArray, List.length_cons, List.length_nil, Nat.reduceAdd, Nat.reduceSub, Array.replicate_succ, Array.replicate_zero, List.push_toArray, List.append_toArray, List.nil_append, List.cons_append]
  gi_wp2_with (refine ⟨trivial, ?_⟩; gi_at_call 94; refine (nodes_in Fence.wide _ trivial rfl _ _ _ _ _).mono ?_; rintro e w' ⟨rfl, rfl⟩)
  have bR := (((Boxed.new (w.alloc (.cells #[.int .i64 o, .int .i64 num, .string s, .slice p K cap] 43)) 29 (.int .i64 0)).alloc (.cells #[.int .i64 0] 3)).alloc (.cells #[.int .i64 0] 3)).alloc (.cells #[.int .i64 o, .int .i64 num, .string s, .slice p K cap] 43); have bS := ((Boxed.new ((w.alloc (.cells #[.int .i64 o, .int .i64 num, .string s, .slice p K cap] 43)).alloc (.cells #[.int .i64 0] 29)) 3 (.int .i64 0)).alloc (.cells #[.int .i64 0] 3)).alloc (.cells #[.int .i64 o, .int .i64 num, .string s, .slice p K cap] 43); have bD := (Boxed.new (((w.alloc (.cells #[.int .i64 o, .int .i64 num, .string s, .slice p K cap] 43)).alloc (.cells #[.int .i64 0] 29)).alloc (.cells #[.int .i64 0] 3)) 3 (.int .i64 0)).alloc (.cells #[.int .i64 o, .int .i64 num, .string s, .slice p K cap] 43); have bA := Four.new ((((w.alloc (.cells #[.int .i64 o, .int .i64 num, .string s, .slice p K cap] 43)).alloc (.cells #[.int .i64 0] 29)).alloc (.cells #[.int .i64 0] 3)).alloc (.cells #[.int .i64 0] 3)) (.int .i64 o) (.int .i64 num) (.string s) (.slice p K cap) 43; have hB0 : Below w.heap.size w (((((w.alloc (.cells #[.int .i64 o, .int .i64 num, .string s, .slice p K cap] 43)).alloc (.cells #[.int .i64 0] 29)).alloc (.cells #[.int .i64 0] 3)).alloc (.cells #[.int .i64 0] 3)).alloc (.cells #[.int .i64 o, .int .i64 num, .string s, .slice p K cap] 43)) := (((((Below.refl _ w).alloc (Nat.le_refl _) _).alloc (by simp) _).alloc (by simp; omega) _).alloc (by simp; omega) _).alloc (by simp; omega) _; have hz : (((((w.alloc (.cells #[.int .i64 o, .int .i64 num, .string s, .slice p K cap] 43)).alloc (.cells #[.int .i64 0] 29)).alloc (.cells #[.int .i64 0] 3)).alloc (.cells #[.int .i64 0] 3)).alloc (.cells #[.int .i64 o, .int .i64 num, .string s, .slice p K cap] 43)).heap.size = w.heap.size + 5 := (by simp); simp only [World.size_alloc, Nat.add_assoc, Nat.reduceAdd] at bR bS bD bA; simp only [Nat.add_assoc, Nat.reduceAdd]; obtain ⟨W0, hW0⟩ : ∃ W0, (((((w.alloc (.cells #[.int .i64 o, .int .i64 num, .string s, .slice p K cap] 43)).alloc (.cells #[.int .i64 0] 29)).alloc (.cells #[.int .i64 0] 3)).alloc (.cells #[.int .i64 0] 3)).alloc (.cells #[.int .i64 o, .int .i64 num, .string s, .slice p K cap] 43)) = W0 := ⟨_, rfl⟩; rw [hW0] at bR bS bD bA hB0 hz ⊢; clear hW0
  refine wpIn_rangeFunc_ownH rfl (by decide) (gf := 140) (lb := #[.pointer (some ⟨w.heap.size + 4, 0, none⟩)]) rfl trivial (enters_of Tryz.func140 (by kernel_rfl) rfl)
    (nodes_stops Fence.wide rfl _ trivial trivial rfl w.heap.size (w.heap.size + 4) (w.heap.size + 4) (by omega) e hsz o num s (.slice p K cap) W0 (by omega) bA (HX.out.under hB0)) keep_t keep_b (Below.refl _ _) (fun _ => rfl)
    (fun bef W => (((Boxed W (w.heap.size + 2) 3 (.int .i64 bef.length) ∧ Boxed W (w.heap.size + 3) 3 (.int .i64 (mxL (bef.map Nd.info)))) ∧ Boxed W (w.heap.size + 1) 29 (.int .i64 0)) ∧ fstE (bef.map Nd.info) = 0) ∧ Below w.heap.size W0 W)
    (fun c bef W => (Boxed W (w.heap.size + 1) 29 (.int .i64 (fstE (bef.map Nd.info))) ∧ (c = .ret ∧ fstE (bef.map Nd.info) ≠ 0)) ∧ Below w.heap.size W0 W)
    (OwnFrom.and (OwnFrom.and (OwnFrom.and (OwnFrom.and (Own.from (boxed_own _ _ _) _) (Own.from (boxed_own _ _ _) _)) (Own.from (boxed_own _ _ _) _)) (ownFrom_pure _ _)) (ownFrom_below (by omega) (by omega)))
    (fun c => OwnFrom.and (OwnFrom.and (Own.from (boxed_own _ _ _) _) (ownFrom_pure _ _)) (ownFrom_below (by omega) (by omega)))
    ⟨⟨⟨⟨bS, bD⟩, bR⟩, rfl⟩, Below.refl _ _⟩
    (fun x a' W => ∃ g, a' = { tmps := #[xv o num s (.slice p K cap), .pointer (some ⟨w.heap.size, 0, none⟩), .pointer (some ⟨w.heap.size + 1, 0, none⟩), .pointer (some ⟨w.heap.size + 2, 0, none⟩), .pointer (some ⟨w.heap.size + 3, 0, none⟩), .int .i64 x.lv, .pointer (some ⟨g, 0, none⟩), undef, xv o num s (.slice p K cap), .func (.func 140) #[] #[.pointer (some ⟨w.heap.size + 4, 0, none⟩)], .int .i64 x.lv, xv x.op x.n x.nm (.slice x.p x.k x.cap), undef, undef, undef, undef, undef, undef, undef, undef, undef, undef, undef, undef, undef, undef, undef, undef], defers := [] } ∧ Four W g (.int .i64 x.op) (.int .i64 x.n) (.string x.nm) (.slice x.p x.k x.cap))
    (fun x a' _ X Y row hs hg hr => by obtain ⟨g, h1, h2⟩ := hs; exact ⟨g, h1, four_own _ g _ _ _ _ () X Y row h2 hg hr⟩)
    ?assign ?body ?done ?stop
  case assign =>
    rintro l bef x W K ⟨⟨⟨⟨bS1, bD1⟩, bR1⟩, hf1⟩, hB1⟩ hK; have hWs := hB1.size; have hb2 : Below W.heap.size W (W.alloc (.cells #[.int .i64 x.op, .int .i64 x.n, .string x.nm, .slice x.p x.k x.cap] 43)) := (Below.refl _ _).alloc (Nat.le_refl _) _; have hlt := bD1.lt; have hK2 := hK _ _ (keepsFrom_below hb2) (Keep.of_below hb2) ⟨⟨⟨⟨bxStay bS1 hb2, bxStay bD1 hb2⟩, bxStay bR1 hb2⟩, hf1⟩, hB1.trans (hb2.mono (by omega))⟩ ⟨W.heap.size, rfl, Four.new W _ _ _ _ 43⟩; rw [zip2]
    gi_wp2
    exact hK2
  case body =>
    rintro l bef x a' W hl _ ⟨⟨⟨⟨bS1, bD1⟩, bR1⟩, hf1⟩, hB1⟩ ⟨g, rfl, fX⟩ hlt; have hWs := hB1.size; have hFS := Lib.hid (fst_snoc (bef.map Nd.info) x.info); have hMX : Hid (mxL ((bef ++ [x]).map Nd.info) = max (mxL (bef.map Nd.info)) x.lv) := Lib.hid (by rw [List.map_append, mx_append, List.map_cons, List.map_nil, mx_one]; rfl); have hMP : Hid ((bef ++ [x]).map Nd.info = bef.map Nd.info ++ [x.info]) := Lib.hid (by rw [List.map_append]; rfl); have FC : Hid (∀ n, CallsIn (Fence.wide.inRound l) n Tryz.prog 95 #[xv x.op x.n x.nm (.slice x.p x.k x.cap)] W (tInt (fltS x.info) W)) := (Lib.hid fun n => CallsIn.inRound l (callsIn_wide.2 (fault_any x.op x.n x.nm x.p x.k x.cap W x.hs x.hk (HT.out.later (hB0.trans hB1))))); have hbl : bef.length ≤ 10000 := (by omega); have x0 := fX.c0; have x1 := fX.c1; have x2 := fX.c2; have x3 := fX.c3; have fR := bR1.frozen; have l1 := bR1.lt; have l2 := bS1.lt; have l3 := bD1.lt; have BS := Lib.hid bS1; have BD := Lib.hid bD1; have BR := Lib.hid bR1; have HB1 := Lib.hid hB1; have HF1 := Lib.hid hf1; have hxl := x.hl; clear fX bS1 bD1 bR1 hB1 hf1; by_cases hf : fltS x.info = 0
    · rw [hf] at FC; have HE : Hid (fstE ((bef ++ [x]).map Nd.info) = 0) := Lib.hid (by rw [hMP.out, hFS.out, HF1.out, if_pos rfl, hf]); clear hf; generalize mxL (bef.map Nd.info) = d at *
      have hmx : Hid (((max d x.lv : Nat) : Int) = max (d : Int) (x.lv : Int)) := Lib.hid (by omega)
      gi_wp2_with (refine ⟨trivial, ?_⟩; gi_at_call 95; refine (FC.out _).mono ?_; rintro e w1 ⟨rfl, hb⟩; have bS2 := bxStay BS.out hb; have bD2 := bxStay BD.out hb; have bR2 := bxStay BR.out hb; have cS := bS2.cell; have cD := bD2.cell; have fS := bS2.frozen; have fD := bD2.frozen; have HB := Lib.hid hb; have BS2 := Lib.hid bS2; have BD2 := Lib.hid bD2; have BR2 := Lib.hid bR2; clear hb bS2 bD2 bR2)
      refine ⟨((keepsFrom_below HB.out).trans ((KeepsOthers.setCell _ _ _).from _)).trans ((KeepsOthers.setCell _ _ _).from _), ((Keep.of_below HB.out).set (by omega) (by omega) _).set (by omega) (by omega) _, ⟨⟨⟨⟨?_, ?_⟩, (BR2.out.other (by omega) _).other (by omega) _⟩, HE.out⟩, ((HB1.out.trans (HB.out.mono (by omega))).setCell (p := ⟨w.heap.size + 2, 0, none⟩) (by simp) _).setCell (p := ⟨w.heap.size + 3, 0, none⟩) (by simp) _⟩⟩
      · rw [List.length_append]; exact (BS2.out.set _).other (by omega) _
      · rw [hMX.out, hmx.out]; exact (BD2.out.other (by omega) _).set _
    · have HE : Hid (fstE ((bef ++ [x]).map Nd.info) = fltS x.info) := Lib.hid (by rw [hMP.out, hFS.out, HF1.out, if_pos rfl]); generalize fltS x.info = E at *
      have hE : (E != 0) = true := (by simpa using hf); have HNE := Lib.hid hf; clear hf
      gi_wp2_with (refine ⟨trivial, ?_⟩; gi_at_call 95; refine (FC.out _).mono ?_; rintro e w1 ⟨rfl, hb⟩; have bR2 := bxStay BR.out hb; have cR := bR2.cell; have fR2 := bR2.frozen; have HB := Lib.hid hb; have BR2 := Lib.hid bR2; clear hb bR2)
      refine ⟨(keepsFrom_below HB.out).trans ((KeepsOthers.setCell _ _ _).from _), ⟨?_, rfl, by rw [HE.out]; exact HNE.out⟩, (HB1.out.trans (HB.out.mono (by omega))).setCell (p := ⟨w.heap.size + 1, 0, none⟩) (by simp) _⟩; rw [HE.out]; exact BR2.out.set _
  case done =>
    rintro D zs W hD hzs ⟨⟨⟨⟨bS1, bD1⟩, bR1⟩, hf1⟩, hB1⟩ hK; have hl : mxL (zs.map Nd.info) = dep e := (by rw [hzs]; have := pre_mx e 1; omega); have hl2 : zs.length = sz e := (by rw [← pre_len e 1, ← hzs, List.length_map]); have hlz : (pre 1 e).length = sz e := pre_len e 1; have HV : Hid (vld e = if 24 < dep e ∨ 400 < sz e then 2 else 0) := Lib.hid (by unfold vld vldL; rw [← hzs, if_pos hf1, hl, List.length_map, hl2]); have HBW := Lib.hid (hB0.trans hB1); rw [hl] at bD1; rw [hl2] at bS1; have cS := bS1.cell; have cD := bD1.cell; have cR := bR1.cell; have fR := bR1.frozen; have HK := Lib.hid hK; clear bS1 bD1 hl hl2 hzs hf1 hlz hB1; by_cases h1 : 24 < dep e
    · have q1 : decide (24 < (dep e : Int)) = true := (by rw [decide_eq_true_eq]; omega); have HV2 : Hid (vld e = 2) := Lib.hid (by rw [HV.out, if_pos (.inl h1)]); clear h1
      gi_wp2
      have hK' := (KeepsOthers.setCell W ⟨w.heap.size + 1, 0, none⟩ (.int .i64 2)).same D _ HK.out rfl; refine ⟨by simp, .inl ⟨_, _, rfl, run_takeDeferred hK', ?_⟩⟩; have hc5 := cell_kept (World.cell?_setCell_same' W ⟨w.heap.size + 1, 0, none⟩ (.int .i64 2) (by rw [cR]; rfl)) (grownBy_putObj' _ D (.deferred none)) (fun r e => by cases e; exact ⟨_, hK', rfl⟩); refine ⟨.int .i64 2, ?_, by rw [HV2.out], (HBW.out.setCell (p := ⟨w.heap.size + 1, 0, none⟩) (by simp) _).trans (belowK_b (w := w) (Nat.le_refl _) _ D _ _ (by omega) hK' rfl rfl)⟩; simp [results, Tryz.results55, go_sem, hc5]
    · have q1 : decide (24 < (dep e : Int)) = false := (by rw [decide_eq_false_iff_not]; omega); by_cases h2 : 400 < sz e
      · have q2 : decide (400 < (sz e : Int)) = true := (by rw [decide_eq_true_eq]; omega); have HV2 : Hid (vld e = 2) := Lib.hid (by rw [HV.out, if_pos (.inr h2)]); clear h1 h2
        gi_wp2
        have hK' := (KeepsOthers.setCell W ⟨w.heap.size + 1, 0, none⟩ (.int .i64 2)).same D _ HK.out rfl; refine ⟨by simp, .inl ⟨_, _, rfl, run_takeDeferred hK', ?_⟩⟩; have hc5 := cell_kept (World.cell?_setCell_same' W ⟨w.heap.size + 1, 0, none⟩ (.int .i64 2) (by rw [cR]; rfl)) (grownBy_putObj' _ D (.deferred none)) (fun r e => by cases e; exact ⟨_, hK', rfl⟩); refine ⟨.int .i64 2, ?_, by rw [HV2.out], (HBW.out.setCell (p := ⟨w.heap.size + 1, 0, none⟩) (by simp) _).trans (belowK_b (w := w) (Nat.le_refl _) _ D _ _ (by omega) hK' rfl rfl)⟩; simp [results, Tryz.results55, go_sem, hc5]
      · have q2 : decide (400 < (sz e : Int)) = false := (by rw [decide_eq_false_iff_not]; omega); have HV2 : Hid (vld e = 0) := Lib.hid (by rw [HV.out, if_neg (by omega)]); clear h1 h2
        gi_wp2
        have hK' := (KeepsOthers.setCell W ⟨w.heap.size + 1, 0, none⟩ (.int .i64 0)).same D _ HK.out rfl; refine ⟨by simp, .inl ⟨_, _, rfl, run_takeDeferred hK', ?_⟩⟩; have hc5 := cell_kept (World.cell?_setCell_same' W ⟨w.heap.size + 1, 0, none⟩ (.int .i64 0) (by rw [cR]; rfl)) (grownBy_putObj' _ D (.deferred none)) (fun r e => by cases e; exact ⟨_, hK', rfl⟩); refine ⟨.int .i64 0, ?_, by rw [HV2.out], (HBW.out.setCell (p := ⟨w.heap.size + 1, 0, none⟩) (by simp) _).trans (belowK_b (w := w) (Nat.le_refl _) _ D _ _ (by omega) hK' rfl rfl)⟩; simp [results, Tryz.results55, go_sem, hc5]
  case stop =>
    rintro D c bef W hD hpre ⟨⟨bR1, rfl, hne⟩, hB1⟩ hK; have HV : Hid (fstE (bef.map Nd.info) = vld e) := Lib.hid (by
      obtain ⟨r, hr⟩ := hpre; unfold vld vldL; rw [← hr, fst_append, if_neg hne, if_neg hne])
    have HBW := Lib.hid (hB0.trans hB1); have cR := bR1.cell; clear bR1 hne hpre hB1
    gi_wp2
    refine ⟨by simp, .inl ⟨_, _, rfl, run_takeDeferred hK, ?_⟩⟩; have hc5 := cell_kept cR (grownBy_putObj' _ D (.deferred none)) (fun r e => by cases e; exact ⟨_, hK, rfl⟩); refine ⟨.int .i64 (fstE (bef.map Nd.info)), ?_, by rw [HV.out], HBW.out.trans (belowK_b (w := w) (Nat.le_refl _) W D _ _ (by omega) hK rfl rfl)⟩; simp [results, Tryz.results55, go_sem, hc5]
end Go.Proofs.YtpejflgdehioaaaGreatDoor.ExW
namespace Go.Proofs.YtpejflgdehioaaaGreatDoor.ItW
open Go Go.RowKit Go.Proofs.YtpejflgdehioaaaGreatDoor.NumM Go.Proofs.YtpejflgdehioaaaGreatDoor.LexW Go.Proofs.YtpejflgdehioaaaGreatDoor.LexM Go.Proofs.YtpejflgdehioaaaGreatDoor.ExM Go.Proofs.YtpejflgdehioaaaGreatDoor.ExW Go.Proofs.YtpejflgdehioaaaGreatDoor.ItM
structure Blk (w : World) (g : Nat) (xs : List Value) : Prop where
  lt : g < w.heap.size
  c : ∀ (i : Nat) (x : Value), xs[i]? = some x → w.cell? ⟨g, i, none⟩ = some x
  f : ∀ o : Nat, w.frozen? ⟨g, o, none⟩ = false
section
variable {w W0 : World} {g : Nat} {xs : List Value}
theorem Blk.new (w : World) (xs : List Value) (t : TypeId) : Blk (w.alloc (.cells xs.toArray t)) w.heap.size xs := by
  have hb : (w.alloc (.cells xs.toArray t)).heap[w.heap.size]? = some (.cells xs.toArray t) := heap_alloc_new _ _; exact ⟨by simp, fun i x hx => (alloc_cells w xs.toArray t i x (by simpa using hx)).1, fun o => by simp only [World.frozen?, hb]; simp⟩
theorem Blk.at_ {n : Nat} (hn : w.heap.size = n) (xs : List Value) (t : TypeId) : Blk (w.alloc (.cells xs.toArray t)) n xs := by subst hn; exact Blk.new w xs t
theorem Blk.stay (h : Blk W0 g xs) (hb : Below W0.heap.size W0 w) : Blk w g xs :=
  ⟨Nat.lt_of_lt_of_le h.lt hb.size, fun i x hx => (hb.cell (p := ⟨g, i, none⟩) h.lt).trans (h.c i x hx), fun o => (hb.frozen (p := ⟨g, o, none⟩) h.lt).trans (h.f o)⟩
theorem Blk.alloc (h : Blk w g xs) (o : Obj) : Blk (w.alloc o) g xs := h.stay ((Below.refl _ _).alloc (Nat.le_refl _) _)
theorem Blk.far {b o : Nat} {v : Value} (h : Blk w g xs) (hn : g ≠ b) : Blk (w.setCell ⟨b, o, none⟩ v) g xs :=
  ⟨by rw [setCell_size]; exact h.lt, fun i x hx => (World.cell?_setCell_other _ _ _ _ (fun e => hn (congrArg Addr.block e).symm)).trans (h.c i x hx), fun o => by rw [World.frozen?_setCell]; exact h.f o⟩
theorem Blk.set (h : Blk w g xs) (i : Nat) (v : Value) (hi : i < xs.length) : Blk (w.setCell ⟨g, i, none⟩ v) g (xs.set i v) := by
  refine ⟨by rw [setCell_size]; exact h.lt, fun j x hx => ?_, fun o => by rw [World.frozen?_setCell]; exact h.f o⟩; rw [List.getElem?_set] at hx; split at hx
  · rename_i e; subst e; obtain rfl : v = x := (by simpa [hi] using hx); exact cell_set (h.c i _ (List.getElem?_eq_getElem hi))
  · rename_i e; rw [other _ _ e]; exact h.c j x hx
theorem Blk.grown {row : Option Nat} {w' : World} (h : Blk w g xs) (hg : w.grownBy w' row) (hr : some g ≠ row) : Blk w' g xs := by
  have hb := hg.block g h.lt hr; exact ⟨Nat.lt_of_lt_of_le h.lt hg.size, fun i x hx => (World.cell?_of_block (w := w) hb).trans (h.c i x hx), fun o => (World.frozen?_of_block (w := w) hb).trans (h.f o)⟩
end
theorem ba (w : World) (o : Obj) : Below w.heap.size w (w.alloc o) := (Below.refl _ _).alloc (Nat.le_refl _) _
abbrev ics (kd o n : Int) (en : ByteArray) (a4 : Value) (nm ix : ByteArray) (a7 a8 a9 a10 a11 : Value) : List Value :=
  [.int .i64 kd, .int .i64 o, .int .i64 n, .string en, a4, .string nm, .string ix, a7, a8, a9, a10, a11]
theorem isEmp_toList (s : ByteArray) : s.toList.isEmpty = isEmp s := by unfold isEmp; exact str_empty s
theorem isEmpty_len {α : Type} (l : List α) : l.isEmpty = decide (l.length = 0) := by cases l <;> simp
theorem eqB_zE (e : Ex) : eqB e zE = zB e := by
  obtain ⟨o, n, s, ks⟩ := e; unfold zE zB; rw [eqB_mk]; have h1 : eqL ks [] = ks.isEmpty := by
    unfold eqL; rw [Bool.eq_iff_iff]; cases ks <;> simp
  have h2 : (s.toList == (⟨#[]⟩ : ByteArray).toList) = isEmp s := by
    rw [← isEmp_toList, Lib.toList_data ⟨#[]⟩]; cases h : s.toList <;> rfl
  rw [h1, h2]; rfl
end Go.Proofs.YtpejflgdehioaaaGreatDoor.ItW
namespace Go.Proofs.YtpejflgdehioaaaGreatDoor.ItW
open Go Go.RowKit Go.Shelf Go.Proofs.YtpejflgdehioaaaGreatDoor.LexW Go.Proofs.YtpejflgdehioaaaGreatDoor.LexM Go.Proofs.YtpejflgdehioaaaGreatDoor.ExM Go.Proofs.YtpejflgdehioaaaGreatDoor.ExW Go.Proofs.YtpejflgdehioaaaGreatDoor.ItM
attribute [local go_sem] Oper.semAt_some
abbrev enc1 (x : Nd) : Array Value := #[xv x.op x.n x.nm (.slice x.p x.k x.cap)]
def CameN (J Jx : List Nd → World → Prop) (n₀ n₁ : Nat) (L : List In) (bef : List Nd) (W : World) (e : Ending) (W' : World) : Prop :=
  (e = .returned (.bool true) ∧ (∃ ys : List Nd, ys.map Nd.info = L ∧ J (bef ++ ys) W') ∧ KeepC n₀ n₁ W W') ∨
  (e = .returned (.bool false) ∧ ∃ q : List Nd, q.map Nd.info <+: L ∧ Jx (bef ++ q) W')
set_option maxRecDepth 100000 in
set_option maxHeartbeats 4000000 in
theorem walkN_in (F : Fence) (hd : F.depth = none) (h60 : F.fn 148) (hro : F.round = none) (l n₀ n₁ NN yb wb : Nat) (J Jx : List Nd → World → Prop) (hn : n₀ ≤ n₁)
    (hJ : ∀ s A B, J s A → A.grownBy B none → J s B) (hyb : n₁ ≤ yb) (hwb : n₁ ≤ wb)
    (G : In → Prop) (hY : ∀ m bef (x : Nd) W, J bef W → G x.info → bef.length < NN → YieldAt F m Tryz.prog l (enc1 x) W fun e W' =>
      (e = .returned (.bool true) ∧ J (bef ++ [x]) W' ∧ KeepC n₀ n₁ W W') ∨ (e = .returned (.bool false) ∧ Jx (bef ++ [x]) W')) (e : Ex) :
    ∀ (n lv : Nat) (v : Value) (bef : List Nd) (W : World), ExAt n₀ W v e → J bef W → n₁ ≤ W.heap.size → bef.length + sz e ≤ NN → lv + sz e ≤ 100000 → (∀ y ∈ pre lv e, G y) →
      Boxed W yb 171 (.func (.yield l) #[] #[]) → Boxed W wb 171 (.func (.func 148) #[] #[.pointer (some ⟨yb, 0, none⟩), .pointer (some ⟨wb, 0, none⟩)]) →
      CallsIn F n Tryz.prog 148 #[v, .pointer (some ⟨yb, 0, none⟩), .pointer (some ⟨wb, 0, none⟩)] W (CameN J Jx n₀ n₁ (pre lv e) bef W) := by
  have hdd : ∀ k : Nat, (F.depth.isSome = true → 1 ≤ k) := (fun k h => by rw [hd] at h; cases h); induction e using Ex.ind with
  | h o num s ks ih =>
    intro n lv v bef W hx hJ0 hsz hNN hlv hG cy cw; obtain ⟨p, cap, pl, cl, rfl, hs, ha⟩ := hx.form; simp only [Ex.op, Ex.n, Ex.nm, Ex.args] at hs ha ⊢; have hks : ks.length ≤ 140737488351232 := ha.hl; rw [sz_mk] at hNN hlv; rw [pre_mk] at hG ⊢; obtain ⟨K, hK⟩ : ∃ K, ks.length = K := ⟨_, rfl⟩; have HK := Lib.hid hK; rw [hK] at hks hG ⊢; clear hK; obtain ⟨x, hxd⟩ : ∃ x : Nd, x = ⟨lv, o, num, s, p, K, cap, by omega, hs, hks⟩ := ⟨_, rfl⟩; have hxe : enc1 x = #[xv o num s (.slice p K cap)] := (by rw [hxd]); have hxi : x.info = ⟨lv, o, num, s, K⟩ := (by rw [hxd]; rfl); have four := Four.new W (.int .i64 o) (.int .i64 num) (.string s) (.slice p K cap) 43; have hb1 : Below W.heap.size W (W.alloc (.cells #[.int .i64 o, .int .i64 num, .string s, .slice p K cap] 43)) := (Below.refl _ _).alloc (Nat.le_refl _) _; have hy1 := hY (n - 1) bef x _ (hJ _ _ _ hJ0 (grown_of_below hb1)) (by rw [hxi]; exact hG _ List.mem_cons_self) (by omega); rw [hxe] at hy1; obtain ⟨fn, tmps, assign, body, hy, hR⟩ := hy1; have by1 := cy.alloc (.cells #[.int .i64 o, .int .i64 num, .string s, .slice p K cap] 43); have bw1 := cw.alloc (.cells #[.int .i64 o, .int .i64 num, .string s, .slice p K cap] 43); have be1 : (W.alloc (.cells #[.int .i64 o, .int .i64 num, .string s, .slice p K cap] 43)).heap[W.heap.size]? = some (.cells #[.int .i64 o, .int .i64 num, .string s, .slice p K cap] 43) := heap_alloc_new _ _; have HBE := Lib.hid be1; have HBY := Lib.hid by1; have HBW := Lib.hid bw1; have cy1 := by1.cell; have cw1 := bw1.cell; have HY := Lib.hid hY; have HG := Lib.hid hG; have HIH := Lib.hid ih; have HXI := Lib.hid hxi; have HJ := Lib.hid hJ; have HA := Lib.hid ha; clear hY hG ih hxi hJ ha hxd hxe hJ0 be1 by1 bw1; have four0 := four.c0; have four1 := four.c1; have four2 := four.c2; have four3 := four.c3; refine callsIn_of_wp Tryz.func148 rfl h60 ?_ hro; simp only [Tryz.ntmps148, List.size_toArray, List.length_cons, List.length_nil, Nat.reduceAdd, Nat.reduceSub, Array.replicate_succ, Array.replicate_zero, List.push_toArray, List.append_toArray, List.nil_append, List.cons_append]
    gi_wp2
    refine hR.mono ?_; rintro e W2 (⟨rfl, hJ2, hk2⟩ | ⟨rfl, hJx2⟩)
    · have c3 : W2.cell? ⟨W.heap.size, 3, none⟩ = some (.slice p K cap) := by
        have := hk2.high _ _ hsz (okC (by decide)) HBE.out; simp [World.cell?, this]
      have HCY := Lib.hid cy; have HCW := Lib.hid cw; have HKW : Hid (KeepC n₀ n₁ W W2) := Lib.hid ((KeepC.of_below hb1).trans hk2); have HJ2 := Lib.hid hJ2; clear four four0 four1 four2 four3 cw1 cy1 cw cy hJ2 hk2 hb1
      gi_wp2
      gi_loopw [14] (fun i wr => ∃ (k : Nat) (ys : List Nd), k ≤ K ∧ i = .int .i64 k ∧ Hid (ys.map Nd.info = pres (lv + 1) (ks.take k)) ∧ Hid (J (bef ++ [x] ++ ys) wr) ∧ Hid (KeepC n₀ n₁ W wr)) (fun i _ => K - (intOf i).toNat)
      case atStart => exact ⟨0, [], Nat.zero_le _, rfl, Lib.hid (by rw [List.take_zero, pres_nil]; rfl), Lib.hid (by rw [List.append_nil]; exact HJ2.out), HKW⟩
      case round =>
        obtain ⟨k, ys, hk, rfl, YS, JW, KW⟩ := hrel; clear c3; by_cases hlt : k < K
        · obtain ⟨b, off, rfl, hbs, hcell⟩ := HA.out.hp (by rw [HK.out]; omega); obtain ⟨a, hak⟩ : ∃ a, ks[k]? = some a := ⟨_, List.getElem?_eq_getElem (by rw [HK.out]; exact hlt)⟩; obtain ⟨q0, q1, q2, q3⟩ := hcell k a hak; have ca0 := KW.out.tree hbs q0; have ca1 := KW.out.tree hbs q1; have ca2 := KW.out.tree hbs q2; have ca3 := KW.out.tree hbs q3; have b1 : Boxed wr yb 171 (.func (.yield l) #[] #[]) := KW.out.high _ _ hyb (okC (by decide)) HCY.out; have b2 : Boxed wr wb 171 (.func (.func 148) #[] #[.pointer (some ⟨yb, 0, none⟩), .pointer (some ⟨wb, 0, none⟩)]) := KW.out.high _ _ hwb (okC (by decide)) HCW.out; have c1 := b1.cell; have c2 := b2.cell; have hwl := cell_lt c2; have hyl' := cell_lt c1; have HB1 := Lib.hid hbs; have hblt := cell_lt ca0; obtain ⟨pa, hpa⟩ : ∃ pa, pl k = pa := ⟨_, rfl⟩; obtain ⟨ka, hka⟩ : ∃ ka, a.args.length = ka := ⟨_, rfl⟩; obtain ⟨ca, hca⟩ : ∃ ca, cl k = ca := ⟨_, rfl⟩; have hxa := (HA.out.hx k a hak).kept (fun _ _ hb _ hv => KW.out.tree hb hv) (Nat.le_refl _); rw [hpa, hka, hca] at ca3 hxa; have HC : Hid (∀ Wx, Below wr.heap.size wr Wx → CallsIn F (n - 1) Tryz.prog 148 #[xv a.op a.n a.nm (.slice pa ka ca), .pointer (some ⟨yb, 0, none⟩), .pointer (some ⟨wb, 0, none⟩)] Wx (CameN J Jx n₀ n₁ (pre (lv + 1) a) (bef ++ [x] ++ ys) Wx)) := Lib.hid fun Wx hbx => by
            have hsa := szs_take hak; have hsb := szs_take_le (k + 1) ks; have hyl : ys.length = szs (ks.take k) := by rw [← pres_len (l := lv + 1) (fun a _ => pre_len a _), ← YS.out, List.length_map]
            have q := HIH.out a (List.mem_of_getElem? hak) (n - 1) (lv + 1) _ _ Wx (hxa.under (hbx.mono (by omega))) (HJ.out _ _ _ JW.out (grown_of_below hbx)) (by have := hbx.size; have := KW.out.size; omega) (by simp; omega) (by omega) (fun y hy => HG.out y (List.mem_cons_of_mem _ (mem_pres.2 ⟨a, List.mem_of_getElem? hak, hy⟩)))
              ((hbx.block yb hyl').trans b1) ((hbx.block wb hwl).trans b2)
            exact q
          clear hcell q0 q1 q2 q3 hpa hka hca hxa b1 b2; have hb2 : Below wr.heap.size wr (wr.alloc (.cells #[.int .i64 a.op, .int .i64 a.n, .string a.nm, .slice pa ka ca] 43)) := (Below.refl _ _).alloc (Nat.le_refl _) _; have HB2 := Lib.hid hb2; have HTK := Lib.hid (pres_take (l := lv + 1) hak); have HPR : Hid (pres (lv + 1) (ks.take (k + 1)) <+: pres (lv + 1) ks) := Lib.hid (by
            have := pres_append (lv + 1) (ks.take (k + 1)) (ks.drop (k + 1)); rw [List.take_append_drop] at this; exact ⟨_, this.symm⟩)
          clear hb2 hak
          gi_wp2_with ((try refine ⟨hdd _, ?_⟩); gi_at_call 148; refine (HC.out _ HB2.out).mono ?_; clear HC; rintro e W5 (⟨rfl, hys, hk5⟩ | ⟨rfl, hq⟩))
          · have H5 := Lib.hid hys; have KW5 : Hid (KeepC n₀ n₁ W W5) := Lib.hid ((KW.out.trans (KeepC.of_below HB2.out)).trans hk5); clear hys hk5; go_roundw
            case rel =>
              obtain ⟨zs, hz, hj⟩ := H5.out; exact ⟨k + 1, ys ++ zs, by omega, by go_num, Lib.hid (by rw [HTK.out, List.map_append, YS.out, hz]), Lib.hid (by rw [← List.append_assoc]; exact hj), KW5⟩
            case measure => simp [intOf]; omega
          · have H5 := Lib.hid hq; clear hq; go_ret; obtain ⟨q, hq1, hq2⟩ := H5.out; refine .inr ⟨rfl, x :: (ys ++ q), ?_, by simpa [List.append_assoc] using hq2⟩; rw [List.map_cons, HXI.out, List.map_append, YS.out]; refine (List.prefix_cons_inj _ |>.2 (List.IsPrefix.trans ?_ HPR.out)); rw [HTK.out]; exact (List.prefix_append_right_inj _).2 hq1
        · have hkK : k = K := (by omega); have YS2 : Hid (ys.map Nd.info = pres (lv + 1) ks) := Lib.hid (by rw [YS.out, hkK, ← HK.out, List.take_length]); clear hkK
          gi_wp2
          go_ret; exact .inl ⟨rfl, ⟨x :: ys, by rw [List.map_cons, HXI.out, YS2.out], by simpa [List.append_assoc] using JW.out⟩, KW.out⟩
    · gi_wp2
      go_ret; exact .inr ⟨rfl, [x], by rw [List.map_cons, HXI.out]; exact ⟨_, rfl⟩, hJx2⟩
set_option maxRecDepth 100000 in
set_option maxHeartbeats 4000000 in
theorem iterN_in (F : Fence) (hd : F.depth = none) (n : Nat) (h59 : F.fn 147) (h60 : F.fn 148) (hro : F.round = none) (l n₀ n₁ eb : Nat) (hn : n₀ ≤ n₁) (e : Ex) (hsz : sz e ≤ 10000)
    (o num : Int) (s : ByteArray) (a3 : Value) (J Jx : List Nd → World → Prop) (hJ : ∀ s A B, J s A → A.grownBy B none → J s B)
    (G : In → Prop) (hG : ∀ y ∈ pre 1 e, G y) (hY : ∀ bef (x : Nd) W, J bef W → G x.info → bef.length < sz e → YieldAt F (n - 1) Tryz.prog l (enc1 x) W fun e W' =>
      (e = .returned (.bool true) ∧ J (bef ++ [x]) W' ∧ KeepC n₀ n₁ W W') ∨ (e = .returned (.bool false) ∧ Jx (bef ++ [x]) W'))
    (W : World) (h1 : n₁ ≤ W.heap.size) (hb : Four W eb (.int .i64 o) (.int .i64 num) (.string s) a3) (hx : ExAt n₀ W (xv o num s a3) e) (h0 : J [] W) :
    CallsIn F n Tryz.prog 147 #[.func (.yield l) #[] #[], .pointer (some ⟨eb, 0, none⟩)] W fun x W' => (∃ v, x = .returned v) ∧
      ((∃ ys : List Nd, ys.map Nd.info = pre 1 e ∧ J ys W') ∨ (∃ q : List Nd, q.map Nd.info <+: pre 1 e ∧ Jx q W')) := by
  have hdd : ∀ k : Nat, (F.depth.isSome = true → 1 ≤ k) := (fun k h => by rw [hd] at h; cases h); have HW : Hid (∀ W2, Below W.heap.size W W2 → Boxed W2 W.heap.size 171 (.func (.yield l) #[] #[]) → Boxed W2 (W.heap.size + 1) 171 (.func (.func 148) #[] #[.pointer (some ⟨W.heap.size, 0, none⟩), .pointer (some ⟨W.heap.size + 1, 0, none⟩)]) →
      CallsIn F (n - 1) Tryz.prog 148 #[xv o num s a3, .pointer (some ⟨W.heap.size, 0, none⟩), .pointer (some ⟨W.heap.size + 1, 0, none⟩)] W2 (CameN J Jx n₀ n₁ (pre 1 e) [] W2)) := Lib.hid fun W2 hb2 c1 c2 =>
    walkN_in F hd h60 hro l n₀ n₁ (sz e) W.heap.size (W.heap.size + 1) J Jx hn hJ (by omega) (by omega) G (fun m bef x W hj hg hl => yieldFree hd m (hY bef x W hj hg hl)) e (n - 1) 1 _ [] W2 (hx.under (hb2.mono (by omega))) (hJ _ _ _ h0 (grown_of_below hb2)) (by have := hb2.size; omega) (by simp) (by omega) hG c1 c2
  have a0 := hb.alloc (.cells #[.func (.yield l) #[] #[]] 171); have a1 := a0.alloc (.cells #[.func (.func 148) #[] #[.pointer (some ⟨W.heap.size, 0, none⟩), .pointer (some ⟨W.heap.size + 1, 0, none⟩)]] 171); have d0 := a1.c0; have d1 := a1.c1; have d2 := a1.c2; have d3 := a1.c3; clear a0 a1 hb hY hJ hx h0; refine callsIn_of_wp Tryz.func147 rfl h59 ?_ hro; simp only [Tryz.ntmps147, List.size_toArray, List.length_cons, List.length_nil, Nat.reduceAdd, Nat.reduceSub, Array.replicate_succ, Array.replicate_zero, List.push_toArray, List.append_toArray, List.nil_append, List.cons_append]; have BX1 := Lib.hid ((Boxed.new W 171 (.func (.yield l) #[] #[])).alloc (.cells #[.func (.func 148) #[] #[.pointer (some ⟨W.heap.size, 0, none⟩), .pointer (some ⟨W.heap.size + 1, 0, none⟩)]] 171)); have bx2 := Boxed.new (W.alloc (.cells #[.func (.yield l) #[] #[]] 171)) 171 (.func (.func 148) #[] #[.pointer (some ⟨W.heap.size, 0, none⟩), .pointer (some ⟨W.heap.size + 1, 0, none⟩)]); rw [World.size_alloc] at bx2; have BX2 := Lib.hid bx2; clear bx2; have HB1 : Hid (Below W.heap.size W ((W.alloc (.cells #[.func (.yield l) #[] #[]] 171)).alloc (.cells #[.func (.func 148) #[] #[.pointer (some ⟨W.heap.size, 0, none⟩), .pointer (some ⟨W.heap.size + 1, 0, none⟩)]] 171))) := Lib.hid (((Below.refl _ _).alloc (Nat.le_refl _) _).alloc (by simp) _)
  gi_wp2_with ((try refine ⟨hdd _, ?_⟩); gi_at_call 148; refine (HW.out _ HB1.out BX1.out BX2.out).mono ?_; clear HW; rintro e W5 (⟨rfl, hys, _⟩ | ⟨rfl, hq⟩))
  · have H5 := Lib.hid hys; clear hys
    go_end0
    obtain ⟨ys, h1, h2⟩ := H5.out; exact ⟨⟨_, rfl⟩, .inl ⟨ys, h1, by simpa using h2⟩⟩
  · have H5 := Lib.hid hq; clear hq
    go_end0
    obtain ⟨q, h1, h2⟩ := H5.out; exact ⟨⟨_, rfl⟩, .inr ⟨q, h1, by simpa using h2⟩⟩
set_option maxRecDepth 100000 in
set_option maxHeartbeats 1000000 in
theorem nodesN_in (F : Fence) (n : Nat) (h40 : F.fn 96) (hro : F.round = none) (o num : Int) (s : ByteArray) (a3 : Value) (w : World) :
    CallsIn F n Tryz.prog 96 #[xv o num s a3] w fun e w' => e = .returned (.func (.func 147) #[] #[.pointer (some ⟨w.heap.size, 0, none⟩)]) ∧ w' = w.alloc (.cells #[.int .i64 o, .int .i64 num, .string s, a3] 43) := by
  refine callsIn_of_wp Tryz.func96 rfl h40 ?_ hro; simp only [Tryz.ntmps96, List.size_toArray, List.length_cons, List.length_nil, Nat.reduceAdd, Nat.reduceSub, Array.replicate_succ, Array.replicate_zero, List.push_toArray, List.append_toArray, List.nil_append, List.cons_append]
  gi_wp2
  go_ret; exact ⟨rfl, rfl⟩
theorem nodesN_tells (F : Fence) (hd : F.depth = none) (n : Nat) (h59 : F.fn 147) (h60 : F.fn 148) (hro : F.round = none) (n₀ n₁ eb : Nat) (hn : n₀ ≤ n₁) (e : Ex) (hsz : sz e ≤ 10000) (G : In → Prop) (hG : ∀ y ∈ pre 1 e, G y)
    (o num : Int) (s : ByteArray) (a3 : Value) (w : World) (h1 : n₁ ≤ w.heap.size) (hb : Four w eb (.int .i64 o) (.int .i64 num) (.string s) a3) (hx : ExAt n₀ w (xv o num s a3) e) :
    Tells F n Tryz.prog 147 #[.pointer (some ⟨eb, 0, none⟩)] (fun x : Nd => #[xv x.op x.n x.nm (.slice x.p x.k x.cap)]) (KeepC n₀ n₁) (fun ys => ys.map Nd.info = pre 1 e) (fun q => q.map Nd.info <+: pre 1 e) (sz e) (fun x _ => G x.info) w := fun l J Jx W hW hJ _ hY h0 =>
  iterN_in F hd n h59 h60 hro l n₀ n₁ eb hn e hsz o num s a3 J Jx (fun s A B hs hg => hJ s A B none hs hg (fun r e => by cases e)) G hG (fun bef x W hj hg hl => by
    obtain ⟨fn, tmps, assign, body, hy, hR⟩ := hY bef x W hj hg hl; exact ⟨fn, tmps, assign, body, hy, hR.mono fun e B hp => hp.imp (fun q => q) (fun q => ⟨q.1, q.2.1⟩)⟩) W (Nat.le_trans h1 hW.size) (hb.stay hW) (hx.under (hW.mono (by omega))) h0
end Go.Proofs.YtpejflgdehioaaaGreatDoor.ItW
namespace Go.Proofs.YtpejflgdehioaaaGreatDoor.ItW
open Go Go.RowKit Go.Shelf Go.Proofs.YtpejflgdehioaaaGreatDoor.NumM Go.Proofs.YtpejflgdehioaaaGreatDoor.LexW Go.Proofs.YtpejflgdehioaaaGreatDoor.LexM Go.Proofs.YtpejflgdehioaaaGreatDoor.ExM Go.Proofs.YtpejflgdehioaaaGreatDoor.ExW Go.Proofs.YtpejflgdehioaaaGreatDoor.ItM
open Go.Proofs.YtpejflgdehioaaaGreatDoor.ClM (Fld)
attribute [local go_sem] Oper.semAt_some
abbrev fdv (f : Fld) : Value := .agg #[.string f.nm, .int .i64 f.wd, .int .i64 f.sz, .int .i64 f.md, .int .i64 f.ini]
def FdsA (N : Nat) (w : World) (v : Value) (l : List Fld) : Prop :=
  ∃ p cap, v = .slice p l.length cap ∧ l.length * 48 ≤ 140737488351232 ∧ l.length ≤ cap ∧ (∀ f ∈ l, f.nm.size ≤ 140737488351232) ∧
    (0 < l.length → ∃ b off, p = some ⟨b, off, none⟩ ∧ b < N ∧ ∀ (i : Nat) (f : Fld), l[i]? = some f → w.cell? ⟨b, off + i * 5, none⟩ = some (.string f.nm) ∧ w.cell? ⟨b, off + i * 5 + 1, none⟩ = some (.int .i64 f.wd) ∧
      w.cell? ⟨b, off + i * 5 + 2, none⟩ = some (.int .i64 f.sz) ∧ w.cell? ⟨b, off + i * 5 + 3, none⟩ = some (.int .i64 f.md) ∧ w.cell? ⟨b, off + i * 5 + 4, none⟩ = some (.int .i64 f.ini))
theorem FdsA.kept {N N' : Nat} {w w' : World} (hk : ∀ b o, b < N → ∀ v, w.cell? ⟨b, o, none⟩ = some v → w'.cell? ⟨b, o, none⟩ = some v) (hN : N ≤ N') {v : Value} {l : List Fld} (h : FdsA N w v l) : FdsA N' w' v l := by
  obtain ⟨p, cap, e, h1, h2, h3, h4⟩ := h; exact ⟨p, cap, e, h1, h2, h3, fun h0 => by obtain ⟨b, off, e, hb, hc⟩ := h4 h0; exact ⟨b, off, e, by omega, fun i f hi => by obtain ⟨a0, a1, a2, a3, a4⟩ := hc i f hi; exact ⟨hk _ _ hb _ a0, hk _ _ hb _ a1, hk _ _ hb _ a2, hk _ _ hb _ a3, hk _ _ hb _ a4⟩⟩⟩
theorem FdsA.under {N : Nat} {w w' : World} (hb : Below N w w') {v : Value} {l : List Fld} (h : FdsA N w v l) : FdsA N w' v l := h.kept (low_cells hb) (Nat.le_refl _)
theorem FdsA.wide {N N' : Nat} {w : World} (hN : N ≤ N') {v : Value} {l : List Fld} (h : FdsA N w v l) : FdsA N' w v l := h.kept (fun _ _ _ _ hv => hv) hN
def ClA (N : Nat) (w : World) (v : Value) (fs : List Fld) : Prop :=
  ∃ (nm par : ByteArray) (vf : Value) (pb : Option Addr) (kb cb : Nat), v = .agg #[.string nm, .string par, vf, .slice pb kb cb] ∧ FdsA N w vf fs
theorem ClA.under {N : Nat} {w w' : World} (hb : Below N w w') {v : Value} {l : List Fld} (h : ClA N w v l) : ClA N w' v l := by
  obtain ⟨nm, par, vf, pb, kb, cb, e, h⟩ := h; exact ⟨nm, par, vf, pb, kb, cb, e, h.under hb⟩
theorem ClA.wide {N N' : Nat} {w : World} (hN : N ≤ N') {v : Value} {l : List Fld} (h : ClA N w v l) : ClA N' w v l := by
  obtain ⟨nm, par, vf, pb, kb, cb, e, h⟩ := h; exact ⟨nm, par, vf, pb, kb, cb, e, h.wide hN⟩
def FMap (W : World) (fb n : Nat) (fs : List Fld) : Prop :=
  ∃ D : DataW Unit, W.ownsMap Tryz.prog 9 (plainElem (H := Unit) Tryz.prog 3) fb n D ∧ (∀ t : ByteArray, D.atKey (.string t.data.toList) (.lit (.int .i64 0)) = .lit (.int .i64 (szI fs t))) ∧ ∀ t : ByteArray, Maps.has D (.string t.data.toList) = (szO fs t).isSome
theorem FMap.made (w : World) : FMap (w.alloc (.map #[] 0)) w.heap.size 0 [] := ⟨_, World.ownsMap_made w _ _ _, fun t => by simp [DataW.atKey, szI, szO], fun t => rfl⟩
theorem FMap.obj {W : World} {fb n : Nat} {fs : List Fld} (h : FMap W fb n fs) : ∃ es ck, W.heap[fb]? = some (.map es ck) := by
  obtain ⟨D, ⟨es, ck, hb, _⟩, _⟩ := h; exact ⟨es, ck, hb⟩
theorem FMap.lt {W : World} {fb n : Nat} {fs : List Fld} (h : FMap W fb n fs) : fb < W.heap.size := by
  obtain ⟨es, ck, hb⟩ := h.obj; exact (Array.getElem?_eq_some_iff.1 hb).1
theorem FMap.stay {W W' : World} {fb n : Nat} {fs : List Fld} (h : FMap W fb n fs) (hk : ∀ o, W.heap[fb]? = some o → okO o → W'.heap[fb]? = some o) : FMap W' fb n fs := by
  obtain ⟨D, ⟨es, ck, hb, r⟩, h2⟩ := h; exact ⟨D, ⟨es, ck, hk _ hb trivial, r⟩, h2⟩
theorem FMap.below {W W' : World} {fb n : Nat} {fs : List Fld} (h : FMap W fb n fs) (hb : Below W.heap.size W W') : FMap W' fb n fs := h.stay fun _ ho _ => (hb.block fb h.lt).trans ho
theorem FMap.kept {W W' : World} {fb n : Nat} {fs : List Fld} {row : Option Nat} (h : FMap W fb n fs) (hg : W.grownBy W' row) (hr : some fb ≠ row) : FMap W' fb n fs := h.stay fun _ ho _ => (hg.block fb h.lt hr).trans ho
theorem FMap.look {W : World} {fb n : Nat} {fs : List Fld} (h : FMap W fb n fs) (t : ByteArray) (ht : t.size ≤ 140737488351232) :
    (Instr.lookup 79 (.map (some fb)) (.string t) false).run Tryz.prog W = .ok (.int .i64 (szI fs t)) W := by
  obtain ⟨D, h1, h2, _⟩ := h; exact IntMap.look (f := szI fs) Tryz.underlying79 ⟨D, h1, h2⟩ t ht
theorem FMap.lookOk {W : World} {fb n : Nat} {fs : List Fld} (h : FMap W fb n fs) (t : ByteArray) (ht : t.size ≤ 140737488351232) :
    (Instr.lookup 79 (.map (some fb)) (.string t) true).run Tryz.prog W = .ok (.tuple #[.int .i64 (szI fs t), .bool (szO fs t).isSome]) W := by
  obtain ⟨D, h1, h2, h3⟩ := h; obtain ⟨v, ps, hr, hv⟩ := h1.look_ok (Maps.string_keyed Tryz.underlying9) Tryz.underlying79 (Tryz.zeroValue3 W) (plainElem_int Tryz.underlying3 (a := 0) (hwf 0 (by decide) (by decide))) (Go.WideMaps.keyOf_string_mk Tryz.underlying9 (Nat.le_trans ht (by decide))); obtain ⟨c, rfl, hc, _⟩ := plainElem_int_inv Tryz.underlying3 hv; simp only [Prod.mk.injEq] at hc; have h4 := hc.1; rw [h2] at h4; simp only [DataW.lit.injEq, Lit.int.injEq, true_and] at h4; rw [hr, h3, h4]
theorem szO_cons (f : Fld) (fs : List Fld) (t : ByteArray) : szO (f :: fs) t = if ClM.same f.nm t = true then some f.sz else szO fs t := by
  unfold szO; rw [List.find?_cons]; cases ClM.same f.nm t <;> rfl
theorem szI_cons (f : Fld) (fs : List Fld) (t : ByteArray) : szI (f :: fs) t = if ClM.same f.nm t = true then f.sz else szI fs t := by
  unfold szI; rw [szO_cons]; split <;> rfl
theorem FMap.put {W : World} {fb n : Nat} {fs : List Fld} (h : FMap W fb n fs) (hn : n ≤ 1000000) (f : Fld) (hs : f.nm.size ≤ 140737488351232) (h0 : -9223372036854775808 ≤ f.sz) (h1 : f.sz ≤ 9223372036854775807) :
    ∃ W', (Instr.mapUpdate 79 (.map (some fb)) (.string f.nm) (.int .i64 f.sz)).run Tryz.prog W = .ok () W' ∧ FMap W' fb (n + 1) (f :: fs) ∧ W.grownBy W' (some fb) := by
  obtain ⟨D, g1, g2, g3⟩ := h; obtain ⟨W', hr, ho, hg⟩ := g1.update (Maps.string_keyed Tryz.underlying9) Tryz.underlying79 (Nat.lt_of_le_of_lt hn (by decide)) (Go.WideMaps.keyOf_string_mk Tryz.underlying9 (Nat.le_trans hs (by decide))) (plainElem_int Tryz.underlying3 (a := f.sz) (hwf f.sz h0 h1)); have hm := g1.isMap; refine ⟨W', hr, ⟨D.put (.string f.nm.data.toList) (.lit (.int .i64 f.sz)), ho, fun t => ?_, fun t => ?_⟩, hg⟩
  · rw [szI_cons]; by_cases e : ClM.same f.nm t = true
    · rw [if_pos e, ← (show f.nm.data.toList = t.data.toList by simpa [ClM.same] using e), Maps.atKey_put_same hm (by simp [WideAt.IsKeyLit])]
    · rw [if_neg e, Maps.atKey_put_other (by
        intro x; simp only [Lit.string.injEq] at x; exact e (by simpa [ClM.same] using x.symm)), g2]
  · rw [szO_cons]; by_cases e : ClM.same f.nm t = true
    · rw [if_pos e, ← (show f.nm.data.toList = t.data.toList by simpa [ClM.same] using e), Maps.has_put_same hm (by simp [WideAt.IsKeyLit])]; rfl
    · rw [if_neg e, Maps.has_put_other (by
        intro x; simp only [Lit.string.injEq] at x; exact e (by simpa [ClM.same] using x.symm)), g3]
theorem tells_of {α : Type} {F : Fence} {n : Nat} {P : Program} {g : Nat} {lb : Array Value} {encs : α → Array Value} {Kp : World → World → Prop} {S Sp : List α → Prop} {N : Nat} {w : World} (h : SeqStopsK F n P g lb encs Kp S Sp N w) :
    Tells F n P g lb encs Kp S Sp N (fun _ _ => True) w := fun l J Jx W hW hJ hJx hY h0 =>
  h l J Jx W hW hJ hJx (fun bef x A hj hl => by
    obtain ⟨fn, tmps, assign, body, hy, hR⟩ := hY bef x A hj trivial hl; exact ⟨fn, tmps, assign, body, hy, hR.mono fun e B hp => hp.imp (fun q => q) (fun q => ⟨q.1, q.2.1⟩)⟩) h0
structure Fe where
  i : Int
  f : Fld
  hs : f.nm.size ≤ 140737488351232
  hz : 0 ≤ f.sz ∧ f.sz ≤ 100
abbrev encF (x : Fe) : Array Value := #[.int .i64 x.i, fdv x.f]
set_option maxRecDepth 100000 in
set_option maxHeartbeats 4000000 in
theorem back_stops (F : Fence) (hd : F.depth = none) (n : Nat) (h125 : F.fn 125) (hro : F.round = none) (n₀ n₁ sb : Nat) (hn : n₀ ≤ n₁) (fs : List Fld) (hS : ∀ f ∈ fs, 0 ≤ f.sz ∧ f.sz ≤ 100) (v : Value)
    (w : World) (h1 : n₁ ≤ w.heap.size) (hsb : n₁ ≤ sb) (hb : Boxed w sb 31 v) (hx : FdsA n₀ w v fs) :
    SeqStopsK F n Tryz.prog 125 #[.pointer (some ⟨sb, 0, none⟩)] encF (KeepC n₀ n₁) (fun ys => ys.map Fe.f = fs.reverse) (fun q => q.map Fe.f <+: fs.reverse) fs.length w := by
  intro l J Jx W hW hJ hJx hY h0; have hdd : ∀ k : Nat, (F.depth.isSome = true → 1 ≤ k) := (fun k h => by rw [hd] at h; cases h); have hws := hW.size; have hbW : Boxed W sb 31 v := (hW.block sb hb.lt).trans hb; have hxW := hx.under (hW.mono (by omega)); obtain ⟨p, cap, rfl, hl1, hl2, hz, hp⟩ := hxW; obtain ⟨K, hK⟩ : ∃ K, fs.length = K := ⟨_, rfl⟩; have HK := Lib.hid hK; rw [hK] at hl1 hl2 hbW hY; have hk47 : K ≤ 140737488351232 := (by omega); have cB := hbW.cell; have HB := Lib.hid hbW; have HP := Lib.hid hp; have HZ := Lib.hid hz; have HY := Lib.hid hY; have HJ0 := Lib.hid h0; have HS := Lib.hid hS; clear hb hx hW hbW hp hz hY h0 hJ hJx hS hK; refine callsIn_of_wp Tryz.func125 rfl h125 ?_ hro; simp only [Tryz.ntmps125, List.size_toArray, List.length_cons, List.length_nil, Nat.reduceAdd, Nat.reduceSub, Array.replicate_succ, Array.replicate_zero, List.push_toArray, List.append_toArray, List.nil_append, List.cons_append]
  gi_wp2
  gi_loopw [3] (fun i wr => ∃ (k : Nat) (ys : List Fe), k ≤ K ∧ i = .int .i64 ((K : Int) - 1 - k) ∧ Hid (ys.map Fe.f = fs.reverse.take k) ∧ Hid (J ys wr) ∧ Hid (KeepC n₀ n₁ W wr)) (fun i _ => (intOf i + 1).toNat)
  case atStart => exact ⟨0, [], Nat.zero_le _, by go_num, Lib.hid (by simp), HJ0, Lib.hid (KeepC.refl _ _ _)⟩
  case round =>
    obtain ⟨k, ys, hk, rfl, YS, JW, KW⟩ := hrel; clear cB; have hB1 : Boxed wr sb 31 (.slice p K cap) := KW.out.high _ _ hsb (okC (by decide)) HB.out; have cB := hB1.cell; by_cases hlt : k < K
    · obtain ⟨b, off, rfl, hbs, hcell⟩ := HP.out (by rw [HK.out]; omega); obtain ⟨m, hm⟩ : ∃ m, m = K - 1 - k := ⟨_, rfl⟩; have hmi : (K : Int) - 1 - k = (m : Int) := (by omega); have hmK : m < K := (by omega); obtain ⟨f, hf⟩ : ∃ f, fs[m]? = some f := ⟨_, List.getElem?_eq_getElem (by rw [HK.out]; exact hmK)⟩; obtain ⟨q0, q1, q2, q3, q4⟩ := hcell m f hf; have c0 := KW.out.tree hbs q0; have c1 := KW.out.tree hbs q1; have c2 := KW.out.tree hbs q2; have c3 := KW.out.tree hbs q3; have c4 := KW.out.tree hbs q4; have hfm := List.mem_of_getElem? hf; have hyl : ys.length = k := by
        have := congrArg List.length YS.out; rw [List.length_map, List.length_take, List.length_reverse, HK.out] at this; omega
      obtain ⟨x, hx⟩ : ∃ x : Fe, x = ⟨m, f, HZ.out f hfm, HS.out f hfm⟩ := ⟨_, rfl⟩; have hxe : encF x = #[.int .i64 m, fdv f] := (by rw [hx]); have HXF : Hid (x.f = f) := Lib.hid (by rw [hx]); have HTK : Hid (fs.reverse.take (k + 1) = fs.reverse.take k ++ [f]) := Lib.hid (by
        have h2 : fs.reverse[k]? = some f := by
          rw [List.getElem?_reverse (by rw [HK.out]; exact hlt), HK.out, ← hf]
          congr 1
          omega
        obtain ⟨h3, h4⟩ := List.getElem?_eq_some_iff.1 h2; rw [List.take_succ_eq_append_getElem h3, h4])
      obtain ⟨fn, tmps, assign, body, hy, hR⟩ := HY.out ys x wr JW.out (by omega); rw [hxe] at hy; clear hcell q0 q1 q2 q3 q4 hf hx hxe hm; rw [hmi]
      gi_wp2
      refine hR.mono ?_; rintro e W2 (⟨rfl, hJ2, hk2⟩ | ⟨rfl, hJx2⟩)
      · have KW2 : Hid (KeepC n₀ n₁ W W2) := Lib.hid (KW.out.trans hk2); have HJ2 := Lib.hid hJ2; clear hJ2 hk2 hR hy
        gi_wp2
        go_roundw
        case rel => exact ⟨k + 1, ys ++ [x], by omega, by go_num, Lib.hid (by rw [HTK.out, List.map_append, YS.out, List.map_cons, List.map_nil, HXF.out]), HJ2, KW2⟩
        case measure => simp [intOf] <;> omega
      · have HJ2 := Lib.hid hJx2; clear hJx2 hR hy
        gi_wp2
        (try simp only [Exit.inBlock, Exit.then])
        refine bodyPost_ret (results_none rfl _ _ _) rfl ?_; refine ⟨⟨_, rfl⟩, .inr ⟨ys ++ [x], ?_, HJ2.out⟩⟩; rw [List.map_append, YS.out, List.map_cons, List.map_nil, HXF.out, ← HTK.out]; exact List.take_prefix _ _
    · have hkK : k = K := (by omega); have YS2 : Hid (ys.map Fe.f = fs.reverse) := Lib.hid (by rw [YS.out, List.take_of_length_le (by rw [List.length_reverse, HK.out]; omega)]); subst hkK
      gi_wp2
      go_end0
      exact ⟨⟨_, rfl⟩, .inl ⟨ys, YS2.out, JW.out⟩⟩
set_option maxRecDepth 100000 in
set_option maxHeartbeats 1000000 in
theorem back_in (F : Fence) (n : Nat) (h81 : F.fn 81) (hro : F.round = none) (p : Option Addr) (K cap : Nat) (w : World) :
    CallsIn F n Tryz.prog 81 #[.slice p K cap] w fun e w' => e = .returned (.func (.func 125) #[] #[.pointer (some ⟨w.heap.size, 0, none⟩)]) ∧ w' = w.alloc (.cells #[.slice p K cap] 31) := by
  refine callsIn_of_wp Tryz.func81 rfl h81 ?_ hro; simp only [Tryz.ntmps81, List.size_toArray, List.length_cons, List.length_nil, Nat.reduceAdd, Nat.reduceSub, Array.replicate_succ, Array.replicate_zero, List.push_toArray, List.append_toArray, List.nil_append, List.cons_append]
  gi_wp2
  go_ret; exact ⟨rfl, rfl⟩
set_option maxRecDepth 100000 in
set_option maxHeartbeats 8000000 in
theorem fieldsOf_any (fs : List Fld) (hS : ∀ f ∈ fs, 0 ≤ f.sz ∧ f.sz ≤ 100) (hK : fs.length ≤ 10000) (v : Value) (w : World) (hx : ClA w.heap.size w v fs) :
    Calls Tryz.prog 43 #[v] w fun e w' => ∃ fb n, e = .returned (.map (some fb)) ∧ w.heap.size ≤ fb ∧ FMap w' fb n fs ∧ Below w.heap.size w w' := by
  obtain ⟨nm, par, vf, pb, kb, cb, rfl, hf⟩ := hx; have HF := Lib.hid hf; have HS := Lib.hid hS; obtain ⟨p, cap, rfl, _⟩ := hf; obtain ⟨K, hKK⟩ : ∃ K, fs.length = K := ⟨_, rfl⟩; rw [hKK] at HF hK ⊢; have HK := Lib.hid hKK; clear hS hKK; obtain ⟨i0, hi⟩ : ∃ x : Unit, x = () := ⟨(), rfl⟩; clear hi; refine (callsIn_wide (n := 9)).1 ?_; refine callsIn_of_wp_marks Tryz.func43 rfl trivial ?_ rfl; simp only [Tryz.ntmps43, List.size_toArray, List.length_cons, List.length_nil, Nat.reduceAdd, Nat.reduceSub, Array.replicate_succ, Array.replicate_zero, List.push_toArray, List.append_toArray, List.nil_append, List.cons_append]; have hmm := @run_makeMap Tryz.prog
  gi_wp2_with (refine ⟨trivial, ?_⟩; gi_at_call 81; refine (back_in Fence.wide _ trivial rfl _ _ _ _).mono ?_; rintro e w' ⟨rfl, rfl⟩)
  have c0 := Blk.new w [.string nm, .string par, .slice p K cap, .slice pb kb cb] 34; have bF := (Boxed.new ((w.alloc (.cells #[.string nm, .string par, .slice p K cap, .slice pb kb cb] 34)).alloc (.map #[] 0)) 79 (.map (some (w.heap.size + 1)))).alloc (.cells #[.slice p K cap] 31); have hm0 := ((FMap.made (w.alloc (.cells #[.string nm, .string par, .slice p K cap, .slice pb kb cb] 34))).below (ba _ (.cells #[.map (some (w.heap.size + 1))] 79))).below (ba _ (.cells #[.slice p K cap] 31)); have bL := Boxed.new (((w.alloc (.cells #[.string nm, .string par, .slice p K cap, .slice pb kb cb] 34)).alloc (.map #[] 0)).alloc (.cells #[.map (some (w.heap.size + 1))] 79)) 31 (.slice p K cap); have hB0 : Below w.heap.size w ((((w.alloc (.cells #[.string nm, .string par, .slice p K cap, .slice pb kb cb] 34)).alloc (.map #[] 0)).alloc (.cells #[.map (some (w.heap.size + 1))] 79)).alloc (.cells #[.slice p K cap] 31)) := (((((Below.refl _ w).alloc (Nat.le_refl _) _).alloc (by simp) _).alloc (by simp; omega) _).alloc (by simp; omega) _); have hz : ((((w.alloc (.cells #[.string nm, .string par, .slice p K cap, .slice pb kb cb] 34)).alloc (.map #[] 0)).alloc (.cells #[.map (some (w.heap.size + 1))] 79)).alloc (.cells #[.slice p K cap] 31)).heap.size = w.heap.size + 4 := (by simp); simp only [World.size_alloc, Nat.add_assoc, Nat.reduceAdd] at bF bL hm0; simp only [Nat.add_assoc, Nat.reduceAdd]; obtain ⟨W0, hW0⟩ : ∃ W0, ((((w.alloc (.cells #[.string nm, .string par, .slice p K cap, .slice pb kb cb] 34)).alloc (.map #[] 0)).alloc (.cells #[.map (some (w.heap.size + 1))] 79)).alloc (.cells #[.slice p K cap] 31)) = W0 := ⟨_, rfl⟩; rw [hW0] at bF bL hm0 hB0 hz ⊢; clear hW0 c0
  refine range_tells rfl (by decide) (gf := 125) (lb := #[.pointer (some ⟨w.heap.size + 3, 0, none⟩)]) rfl trivial (enters_of Tryz.func125 (by kernel_rfl) rfl)
    (tells_of (back_stops Fence.wide rfl _ trivial rfl w.heap.size (w.heap.size + 3) (w.heap.size + 3) (by omega) fs HS.out _ W0 (by omega) (Nat.le_refl _) bL (HF.out.under hB0))) keepC_t (keepC_b (by omega)) (fun _ => rfl)
    (fun bef W => (Boxed W (w.heap.size + 2) 79 (.map (some (w.heap.size + 1))) ∧ FMap W (w.heap.size + 1) bef.length (bef.map Fe.f).reverse) ∧ Below w.heap.size w W)
    (fun _ _ _ => False)
    (OwnFrom.and (OwnFrom.and (Own.from (boxed_own _ _ _) _) (fun s A B row hs hg hr => hs.kept hg (fun e => by have := (hr _ e.symm).1; omega))) (ownFrom_below (Nat.le_refl _) (by omega)))
    (fun _ _ _ _ _ hs _ _ => hs)
    ⟨⟨bF, hm0⟩, hB0⟩ ?round ?done ?stop
  case round =>
    rintro l bef x W hl ⟨⟨bF1, hm1⟩, hB1⟩ _ hlt; have hHM : Hid (((bef ++ [x]).map Fe.f).reverse = x.f :: (bef.map Fe.f).reverse) := Lib.hid (by simp); have hbn : bef.length ≤ 10000 := (by have := HK.out; omega); have hWs := hB1.size; have HBF := Lib.hid bF1; have HM1 := Lib.hid hm1; have HB1 := Lib.hid hB1; have hml := hm1.lt; clear bF1 hm1 hB1; obtain ⟨i, f, hs, hzz⟩ := x; simp only at hHM ⊢; rw [zip2]; have B1 := Lib.hid (ba W (.cells #[.string f.nm, .int .i64 f.wd, .int .i64 f.sz, .int .i64 f.md, .int .i64 f.ini] 77)); have FI1 := Lib.hid (Blk.new W [.string f.nm, .int .i64 f.wd, .int .i64 f.sz, .int .i64 f.md, .int .i64 f.ini] 77)
    gi_wp2
    refine ⟨keepsFrom_below B1.out, KeepC.of_below B1.out, ⟨⟨bxStay HBF.out B1.out, HM1.out.below B1.out⟩, HB1.out.trans (B1.out.mono hWs)⟩, ?_⟩; rintro Wb hnear ⟨⟨bF2, hm2⟩, hB2⟩; have e0 := hnear.cell (FI1.out.c 0 _ rfl); have e2 := hnear.cell (FI1.out.c 2 _ rfl); have cF := bF2.cell; obtain ⟨W2, hup, hm3, hg3⟩ := hm2.put (by omega) f hs (by omega) (by omega); have HG := Lib.hid hg3; have HM3 := Lib.hid hm3; have HBF2 := Lib.hid bF2; have HB2 := Lib.hid hB2; have hl2 := bF2.lt; clear bF2 hm2 hB2 hnear hg3 hm3
    gi_wp2
    refine ⟨KeepsFrom.of_grownBy HG.out (fun j e => by cases e; omega), KeepC.grown HG.out (fun b e => by cases e; exact ⟨by omega, .inl (by omega)⟩), ⟨⟨(HG.out.block _ hl2 (fun e => by simp only [Option.some.injEq] at e; omega)).trans HBF2.out, ?_⟩, HB2.out.grown HG.out (by have := HB2.out.size; omega) (fun k e => by cases e; omega)⟩⟩; rw [hHM.out, List.length_append]; exact HM3.out
  case done =>
    rintro D zs W hD hzs ⟨⟨bF1, hm1⟩, hB1⟩ hK; have cF := bF1.cell; have hm2 : FMap W (w.heap.size + 1) zs.length fs := (by rw [hzs, List.reverse_reverse] at hm1; exact hm1); have HM := Lib.hid hm2; have HB := Lib.hid hB1; have HKD := Lib.hid hK; clear bF1 hm1 hm2 hzs hB1
    gi_wp2
    refine ⟨by simp, .inl ⟨_, _, rfl, run_takeDeferred HKD.out, ?_⟩⟩; exact ⟨_, results_tmp rfl _ _ _, w.heap.size + 1, zs.length, rfl, by omega, HM.out.kept (grownBy_putObj' W D (.deferred none)) (fun e => by cases e; omega), HB.out.trans (belowK_b (w := w) (Nat.le_refl _) W D _ _ (by omega) HKD.out rfl rfl)⟩
  case stop =>
    rintro D c bef W _ _ h _; exact h.elim
end Go.Proofs.YtpejflgdehioaaaGreatDoor.ItW
namespace Go.Proofs.YtpejflgdehioaaaGreatDoor.ItW
open Go Go.RowKit Go.Proofs.YtpejflgdehioaaaGreatDoor.NumM Go.Proofs.YtpejflgdehioaaaGreatDoor.LexW Go.Proofs.YtpejflgdehioaaaGreatDoor.LexM Go.Proofs.YtpejflgdehioaaaGreatDoor.ExM Go.Proofs.YtpejflgdehioaaaGreatDoor.ExW Go.Proofs.YtpejflgdehioaaaGreatDoor.ItM
structure TabI (w : World) : Prop where
  tab : Tab w
  syn : ∃ tp p, w.var? Tryz.prog "strconv.ErrSyntax" = some #[.iface tp p]
theorem gSyntax : Tryz.prog.globalNamed "strconv.ErrSyntax" = some 1 := by kernel_rfl
theorem TabI.later {w w' : World} (h : TabI w) (hb : Below w.heap.size w w') : TabI w' :=
  ⟨h.tab.later hb, by obtain ⟨tp, p, hr⟩ := h.syn; exact ⟨tp, p, var_later gSyntax hr hb⟩⟩
theorem atoi_empty (w : World) (ht : TabI w) : Calls Tryz.prog 197 #[.string ⟨#[]⟩] w fun e w' => ∃ t p, e = .returned (.tuple #[.int .i64 0, .iface t (.pointer p)]) ∧ Below w.heap.size w w' := by
  obtain ⟨tp, p, hv⟩ := ht.syn; exact (Any.strconv_Atoi_syntax_var Tryz.laysC172 ⟨#[]⟩ (by decide) rfl tp p w hv).mono fun e w' ⟨N, he, _, _, hb⟩ => ⟨_, _, he, hb⟩
set_option maxRecDepth 100000 in
theorem cutLite0 (s : ByteArray) (h : (91 : UInt8) ∉ s.data.toList) (w : World) :
    Calls Tryz.prog 199 #[.string s, .string ⟨#[91]⟩] w fun e w' => e = .returned (.tuple #[.string s, .string ⟨#[]⟩, .bool false]) ∧ w = w' := by
  have IX := Tryz.stringslite_Index_one s 91 w; have hi : Lib.indexByte s.data.toList 91 = -1 := by
    have hge := Lib.indexByte_ge s.data.toList 91; by_cases h1 : Lib.indexByte s.data.toList 91 = -1
    · exact h1
    · obtain ⟨k, hk⟩ : ∃ k : Nat, Lib.indexByte s.data.toList 91 = (k : Int) := ⟨(Lib.indexByte s.data.toList 91).toNat, by omega⟩; obtain ⟨h2, _⟩ := Lib.indexByte_some hk; exact absurd (List.mem_of_getElem? h2) h
  rw [hi] at IX; have IX := Lib.hid IX; clear h hi
  go_enter Tryz.func199, Tryz.ntmps199
  go_wp2_with (go_at_call 210; ((with_reducible refine IX.out.mono ?_); rintro e w' ⟨rfl, rfl⟩))
  refine bodyPost_ret (v := .tuple #[.string s, .string ⟨#[]⟩, .bool false]) (by simp [results, Tryz.results199, go_sem]) rfl ?_; exact ⟨rfl, rfl⟩
theorem cut0 (s : ByteArray) (h : (91 : UInt8) ∉ s.data.toList) (w : World) :
    Calls Tryz.prog 174 #[.string s, .string ⟨#[91]⟩] w fun e w' => e = .returned (.tuple #[.string s, .string ⟨#[]⟩, .bool false]) ∧ w = w' := by
  have C := Lib.hid (cutLite0 s h w); clear h
  go_enter Tryz.func174, Tryz.ntmps174
  go_wp2_with (go_at_call 199; ((with_reducible refine C.out.mono ?_); rintro e w1 ⟨rfl, rfl⟩))
  refine bodyPost_ret (v := .tuple #[.string s, .string ⟨#[]⟩, .bool false]) (by simp [results, Tryz.results174, go_sem]) rfl ?_; exact ⟨rfl, rfl⟩
theorem dig_cases {d : UInt8} (h : 48 ≤ d.toNat ∧ d.toNat ≤ 55) : d = 48 ∨ d = 49 ∨ d = 50 ∨ d = 51 ∨ d = 52 ∨ d = 53 ∨ d = 54 ∨ d = 55 := by
  have : ∀ e : UInt8, d.toNat = e.toNat → d = e := (fun e he => UInt8.toNat_inj.1 he); have hk : d.toNat = 48 ∨ d.toNat = 49 ∨ d.toNat = 50 ∨ d.toNat = 51 ∨ d.toNat = 52 ∨ d.toNat = 53 ∨ d.toNat = 54 ∨ d.toNat = 55 := (by omega); rcases hk with h | h | h | h | h | h | h | h
  · exact .inl (this 48 h)
  · exact .inr (.inl (this 49 h))
  · exact .inr (.inr (.inl (this 50 h)))
  · exact .inr (.inr (.inr (.inl (this 51 h))))
  · exact .inr (.inr (.inr (.inr (.inl (this 52 h)))))
  · exact .inr (.inr (.inr (.inr (.inr (.inl (this 53 h))))))
  · exact .inr (.inr (.inr (.inr (.inr (.inr (.inl (this 54 h)))))))
  · exact .inr (.inr (.inr (.inr (.inr (.inr (.inr (this 55 h)))))))
theorem atoi_dig {d : UInt8} (h : 48 ≤ d.toNat ∧ d.toNat ≤ 55) : Lib.atoiAll [d] = .ok (((d.toNat - 48 : Nat) : Int)) ∧ Lib.trimSuffix [d, 93] [93] = [d] := by
  rcases dig_cases h with rfl | rfl | rfl | rfl | rfl | rfl | rfl | rfl <;> exact ⟨rfl, rfl⟩
theorem elm_parts {s : ByteArray} (h : isE s = true) : ∃ d : UInt8, s.data.toList = (cutA s).data.toList ++ 91 :: [d, 93] ∧ (48 ≤ d.toNat ∧ d.toNat ≤ 55) ∧ nmB (cutA s).data.toList = true ∧ cutK s = ((d.toNat - 48 : Nat) : Int) := by
  obtain ⟨r, d, e, hd, hn⟩ := elm_iff.1 h; have ha : (cutA s).data.toList = r := by
    show s.data.toList.take (s.data.toList.length - 3) = r; rw [e]; simp
  refine ⟨d, by rw [ha]; exact e, hd, by rw [ha]; exact hn, ?_⟩; unfold cutK; rw [e]; have hl : (r ++ 91 :: [d, 93]).length - 2 = r.length + 1 := (by simp); rw [hl, List.getD_eq_getElem?_getD, List.getElem?_append_right (by omega)]; simp
def tCut (s : ByteArray) (w : World) (e : Ending) (w' : World) : Prop :=
  ∃ t i, e = .returned (.tuple #[.string t, .int .i64 i, .bool (isE s)]) ∧ (isE s = true → t = cutA s ∧ i = cutK s) ∧ Below w.heap.size w w'
set_option maxRecDepth 100000 in
set_option maxHeartbeats 4000000 in
theorem cutElement_any (s : ByteArray) (w : World) (hs : s.size ≤ 140737488351232) (hv : varB s.data.toList = true) (ht : TabI w) :
    Calls Tryz.prog 167 #[.string s] w (tCut s w) := by
  have HT := Lib.hid ht; obtain ⟨q, hq⟩ : ∃ q, isE s = q := ⟨_, rfl⟩; cases q
  · have hn : nmB s.data.toList = true := by
      unfold varB at hv; rw [show elmB s.data.toList = false from hq] at hv
      simpa using hv
    have C := Lib.hid (cut0 s (nm_no hn) w); have T0 : Hid (Calls Tryz.prog 198 #[.string ⟨#[]⟩, .string ⟨#[93]⟩] w fun e w' => e = .returned (.string ⟨#[]⟩) ∧ w' = w) := Lib.hid (Tryz.strings_TrimSuffix ⟨#[]⟩ ⟨#[93]⟩ w (by decide)); have A0 := Lib.hid (atoi_empty w ht); have Q := Lib.hid hq; clear hn hv ht hs hq
    go_enter Tryz.func167, Tryz.ntmps167
    go_wp2_with (first
      | (go_at_call 174; ((with_reducible refine C.out.mono ?_); rintro e w1 ⟨rfl, rfl⟩))
      | (go_at_call 198; ((with_reducible refine T0.out.mono ?_); rintro e w1 ⟨rfl, rfl⟩))
      | (go_at_call 197; ((with_reducible refine A0.out.mono ?_); rintro e w1 ⟨t, p, rfl, hb⟩; have HB := Lib.hid hb; clear hb)))
    refine bodyPost_ret (v := .tuple #[.string ⟨#[]⟩, .int .i64 0, .bool false]) (by simp [results, Tryz.results167, go_sem]) rfl ?_; exact ⟨_, _, by rw [Q.out], fun h => (by rw [Q.out] at h; cases h), HB.out⟩
  · obtain ⟨d, e, hd, hn, hk⟩ := elm_parts hq; obtain ⟨t, b, f, ⟨p1, p2, p3, p4⟩, C0⟩ := cutCode s hs; have hfb : f = true ∧ t = cutA s ∧ b = ⟨#[d, 93]⟩ := by
      rcases p4 with ⟨rfl, e2⟩ | ⟨rfl, e2⟩
      · rw [e] at e2; obtain ⟨g1, g2⟩ := split_at e2 (nm_no hn) p3; exact ⟨rfl, bs_eq g1.symm, bs_eq g2.symm⟩
      · rw [e2, e] at p3; exact absurd (by simp) p3
    obtain ⟨rfl, rfl, rfl⟩ := hfb; obtain ⟨a1, a2⟩ := atoi_dig hd; have C := Lib.hid (C0 w); have T0 : Hid (∀ W, Calls Tryz.prog 198 #[.string ⟨#[d, 93]⟩, .string ⟨#[93]⟩] W fun e w' => e = .returned (.string ⟨#[d]⟩) ∧ w' = W) := Lib.hid fun W => by
      have := Tryz.strings_TrimSuffix ⟨#[d, 93]⟩ ⟨#[93]⟩ W (show (2 : Nat) ≤ 9223372036854775807 by decide); rw [show Lib.trimSuffix (⟨#[d, 93]⟩ : ByteArray).data.toList (⟨#[93]⟩ : ByteArray).data.toList = [d] from a2] at this; exact this
    have A0 : Hid (∀ W, Calls Tryz.prog 197 #[.string ⟨#[d]⟩] W fun e w' => e = .returned (.tuple #[.int .i64 (cutK s), .nilIface]) ∧ Below W.heap.size W w') := Lib.hid fun W => by
      refine (Tryz.strconv_Atoi_ok ⟨#[d]⟩ (show (1 : Nat) ≤ 9223372036854775806 by decide) (cutK s) (by rw [hk]; exact a1) W).mono ?_; rintro e w' ⟨rfl, hw⟩; refine ⟨rfl, ?_⟩; rcases hw with rfl | ⟨t, rfl⟩
      · exact Below.refl _ _
      · exact Lib.bytesWorld_below _ _ _
    have Q := Lib.hid hq; obtain ⟨k, hkk⟩ : ∃ k, cutK s = k := ⟨_, rfl⟩; obtain ⟨a, haa⟩ : ∃ a, cutA s = a := ⟨_, rfl⟩; rw [hkk] at A0; rw [haa] at C; have HKK := Lib.hid hkk; have HAA := Lib.hid haa; clear C0 p1 p2 p3 p4 hk hn e hd a1 a2 hv ht hs hq hkk haa
    go_enter Tryz.func167, Tryz.ntmps167
    go_wp2_with (first
      | (go_at_call 174; ((with_reducible refine C.out.mono ?_); rintro e w1 ⟨rfl, hb⟩; have HB1 := Lib.hid hb; clear hb))
      | (go_at_call 198; ((with_reducible refine (T0.out _).mono ?_); rintro e w1 ⟨rfl, rfl⟩))
      | (go_at_call 197; ((with_reducible refine (A0.out _).mono ?_); rintro e w2 ⟨rfl, hb⟩; have HB2 := Lib.hid (HB1.out.then_ hb); clear hb)))
    refine bodyPost_ret (v := .tuple #[.string a, .int .i64 k, .bool true]) (by simp [results, Tryz.results167, go_sem]) rfl ?_; exact ⟨_, _, by rw [Q.out], fun _ => ⟨HAA.out.symm, HKK.out.symm⟩, HB2.out⟩
end Go.Proofs.YtpejflgdehioaaaGreatDoor.ItW
namespace Go.Proofs.YtpejflgdehioaaaGreatDoor.ItW
open Go Go.RowKit Go.Proofs.YtpejflgdehioaaaGreatDoor.NumM Go.Proofs.YtpejflgdehioaaaGreatDoor.LexW Go.Proofs.YtpejflgdehioaaaGreatDoor.LexM Go.Proofs.YtpejflgdehioaaaGreatDoor.ExM Go.Proofs.YtpejflgdehioaaaGreatDoor.ExW Go.Proofs.YtpejflgdehioaaaGreatDoor.ItM
open Go.Proofs.YtpejflgdehioaaaGreatDoor.ClM (Fld)
theorem hasP_eq (fs : List Fld) (s : ByteArray) : hasP fs s = ((szO fs s).isSome && decide (szI fs s ≤ 0)) := by
  unfold hasP szI; cases szO fs s <;> rfl
theorem cut_size {s : ByteArray} (hs : s.size ≤ 140737488351232) : (cutA s).size ≤ 140737488351232 := by
  have h : (cutA s).size ≤ s.size := by
    rw [Lib.size_eq, Lib.size_eq]; show (s.data.toList.take _).length ≤ _; rw [List.length_take]; omega
  omega
structure FsA (w : World) (fb : Nat) (fs : List Fld) : Prop where
  map : ∃ n, FMap w fb n fs
  tab : TabI w
theorem FsA.later {w w' : World} {fb : Nat} {fs : List Fld} (h : FsA w fb fs) (hb : Below w.heap.size w w') : FsA w' fb fs := by
  obtain ⟨n, hm⟩ := h.map; exact ⟨⟨n, hm.below hb⟩, h.tab.later hb⟩
theorem FsA.look {w : World} {fb : Nat} {fs : List Fld} (h : FsA w fb fs) (t : ByteArray) (ht : t.size ≤ 140737488351232) : (Instr.lookup 79 (.map (some fb)) (.string t) false).run Tryz.prog w = .ok (.int .i64 (szI fs t)) w := by
  obtain ⟨n, hm⟩ := h.map; exact hm.look t ht
theorem FsA.lookOk {w : World} {fb : Nat} {fs : List Fld} (h : FsA w fb fs) (t : ByteArray) (ht : t.size ≤ 140737488351232) : (Instr.lookup 79 (.map (some fb)) (.string t) true).run Tryz.prog w = .ok (.tuple #[.int .i64 (szI fs t), .bool (szO fs t).isSome]) w := by
  obtain ⟨n, hm⟩ := h.map; exact hm.lookOk t ht
theorem hasA_any (fb : Nat) (fs : List Fld) (s : ByteArray) (w : World) (hf : FsA w fb fs) (hs : s.size ≤ 140737488351232) :
    Calls Tryz.prog 129 #[.map (some fb), .string s] w fun e w' => e = .returned (.bool (hasA fs s)) ∧ w = w' := by
  have hlk := hf.look s hs; have E : Hid (hasA fs s = decide (0 < szI fs s)) := Lib.hid rfl; clear hf hs; generalize szI fs s = z at *
  by_cases h : 0 < z
  · rw [decide_eq_true h] at E
    go_enter Tryz.func129, Tryz.ntmps129
    go_wp2; go_ret; exact ⟨retb E.out.symm, rfl⟩
  · rw [decide_eq_false h] at E
    go_enter Tryz.func129, Tryz.ntmps129
    go_wp2; go_ret; exact ⟨retb E.out.symm, rfl⟩
theorem hasP_any (fb : Nat) (fs : List Fld) (s : ByteArray) (w : World) (hf : FsA w fb fs) (hs : s.size ≤ 140737488351232) :
    Calls Tryz.prog 149 #[.map (some fb), .string s] w fun e w' => e = .returned (.bool (hasP fs s)) ∧ w = w' := by
  have hlk := hf.lookOk s hs; have E := Lib.hid (hasP_eq fs s); clear hf hs; generalize szI fs s = z at *
  generalize (szO fs s).isSome = o at *
  cases o
  · go_enter Tryz.func149, Tryz.ntmps149
    go_wp2; go_ret; exact ⟨retb (by rw [E.out]; rfl), rfl⟩
  · by_cases h : z ≤ 0
    · rw [decide_eq_true h] at E
      go_enter Tryz.func149, Tryz.ntmps149
      go_wp2; go_ret; exact ⟨retb (by rw [E.out]; rfl), rfl⟩
    · rw [decide_eq_false h] at E
      go_enter Tryz.func149, Tryz.ntmps149
      go_wp2; go_ret; exact ⟨retb (by rw [E.out]; rfl), rfl⟩
set_option maxHeartbeats 1000000 in
theorem hasV_any (fb : Nat) (fs : List Fld) (s : ByteArray) (w : World) (hf : FsA w fb fs) (hs : s.size ≤ 140737488351232) (hv : varB s.data.toList = true) :
    Calls Tryz.prog 128 #[.map (some fb), .string s] w (tBool (hasV fs s) w) := by
  have C := Lib.hid (cutElement_any s w hs hv hf.tab); have P : Hid (∀ W, Below w.heap.size w W → Calls Tryz.prog 149 #[.map (some fb), .string s] W fun e w' => e = .returned (.bool (hasP fs s)) ∧ W = w') := (Lib.hid fun W hW => hasP_any fb fs s W (hf.later hW) hs); have L : Hid (∀ W, Below w.heap.size w W → (Instr.lookup 79 (.map (some fb)) (.string (cutA s)) false).run Tryz.prog W = .ok (.int .i64 (szI fs (cutA s))) W) := (Lib.hid fun W hW => (hf.later hW).look _ (cut_size hs)); have E : Hid (hasV fs s = (hasP fs s || (isE s && decide (cutK s < szI fs (cutA s))))) := Lib.hid rfl; unfold tCut at C; clear hf hs hv; generalize hasP fs s = p at *
  generalize isE s = q at *
  generalize szI fs (cutA s) = z at *
  generalize cutA s = a at *
  generalize cutK s = k at *
  cases p
  · cases q
    · go_enter Tryz.func128, Tryz.ntmps128
      go_wp2_with (first
        | (go_at_call 167; ((with_reducible refine C.out.mono ?_); rintro e w1 ⟨t, i, rfl, _, hb⟩; have HB := Lib.hid hb; clear hb))
        | (go_at_call 149; ((with_reducible refine (P.out _ HB.out).mono ?_); rintro e w2 ⟨rfl, rfl⟩)))
      go_ret; exact tBool_mk (by rw [E.out]; rfl) HB.out
    · by_cases h : k < z
      · rw [decide_eq_true h] at E
        go_enter Tryz.func128, Tryz.ntmps128
        go_wp2_with (first
          | (go_at_call 167; ((with_reducible refine C.out.mono ?_); rintro e w1 ⟨t, i, rfl, hti, hb⟩; obtain ⟨rfl, rfl⟩ := hti rfl; have HB := Lib.hid hb; have hlk := L.out _ hb; clear hb hti))
          | (go_at_call 149; ((with_reducible refine (P.out _ HB.out).mono ?_); rintro e w2 ⟨rfl, rfl⟩)))
        go_ret; exact tBool_mk (by rw [E.out]; rfl) HB.out
      · go_enter Tryz.func128, Tryz.ntmps128
        go_wp2_with (first
          | (go_at_call 167; ((with_reducible refine C.out.mono ?_); rintro e w1 ⟨t, i, rfl, hti, hb⟩; obtain ⟨rfl, rfl⟩ := hti rfl; have HB := Lib.hid hb; have hlk := L.out _ hb; clear hb hti))
          | (go_at_call 149; ((with_reducible refine (P.out _ HB.out).mono ?_); rintro e w2 ⟨rfl, rfl⟩)))
        go_ret; exact tBool_mk (by rw [E.out, decide_eq_false (by omega)]; rfl) HB.out
  · go_enter Tryz.func128, Tryz.ntmps128
    go_wp2_with (first
      | (go_at_call 167; ((with_reducible refine C.out.mono ?_); rintro e w1 ⟨t, i, rfl, _, hb⟩; have HB := Lib.hid hb; clear hb))
      | (go_at_call 149; ((with_reducible refine (P.out _ HB.out).mono ?_); rintro e w2 ⟨rfl, rfl⟩)))
    go_ret; exact tBool_mk (by rw [E.out]; rfl) HB.out
set_option maxHeartbeats 1000000 in
theorem misP_any (fb : Nat) (fs : List Fld) (s : ByteArray) (w : World) (hf : FsA w fb fs) (hs : s.size ≤ 140737488351232) (hv : varB s.data.toList = true) :
    Calls Tryz.prog 127 #[.map (some fb), .string s] w (tBool (misP fs s) w) := by
  have C := Lib.hid (cutElement_any s w hs hv hf.tab); have P : Hid (∀ W, Below w.heap.size w W → Calls Tryz.prog 149 #[.map (some fb), .string (cutA s)] W fun e w' => e = .returned (.bool (hasP fs (cutA s))) ∧ W = w') := (Lib.hid fun W hW => hasP_any fb fs _ W (hf.later hW) (cut_size hs)); have E : Hid (misP fs s = (isE s && hasP fs (cutA s))) := Lib.hid rfl; unfold tCut at C; clear hf hs hv; generalize isE s = q at *
  generalize hasP fs (cutA s) = p at *
  generalize cutA s = a at *
  generalize cutK s = k at *
  cases q
  · go_enter Tryz.func127, Tryz.ntmps127
    go_wp2_with (go_at_call 167; ((with_reducible refine C.out.mono ?_); rintro e w1 ⟨t, i, rfl, _, hb⟩; have HB := Lib.hid hb; clear hb))
    go_ret; exact tBool_mk (by rw [E.out]; rfl) HB.out
  · go_enter Tryz.func127, Tryz.ntmps127
    go_wp2_with (first
      | (go_at_call 167; ((with_reducible refine C.out.mono ?_); rintro e w1 ⟨t, i, rfl, hti, hb⟩; obtain ⟨rfl, rfl⟩ := hti rfl; have HB := Lib.hid hb; clear hb hti))
      | (go_at_call 149; ((with_reducible refine (P.out _ HB.out).mono ?_); rintro e w2 ⟨rfl, rfl⟩)))
    go_ret; exact tBool_mk (by rw [E.out]; rfl) HB.out
set_option maxHeartbeats 2000000 in
theorem unk_any (fb : Nat) (fs : List Fld) (s : ByteArray) (w : World) (hf : FsA w fb fs) (hs : s.size ≤ 140737488351232) (hv : varB s.data.toList = true) :
    Calls Tryz.prog 83 #[.map (some fb), .string s] w (tBool (unkB fs s) w) := by
  have M := Lib.hid (misP_any fb fs s w hf hs hv); have V : Hid (∀ W, Below w.heap.size w W → Calls Tryz.prog 128 #[.map (some fb), .string s] W (tBool (hasV fs s) W)) := (Lib.hid fun W hW => hasV_any fb fs s W (hf.later hW) hs hv); have A : Hid (∀ W, Below w.heap.size w W → Calls Tryz.prog 129 #[.map (some fb), .string s] W fun e w' => e = .returned (.bool (hasA fs s)) ∧ W = w') := (Lib.hid fun W hW => hasA_any fb fs s W (hf.later hW) hs); have E : Hid (unkB fs s = (misP fs s || (!hasV fs s && !hasA fs s))) := Lib.hid rfl; clear hf hs hv; generalize misP fs s = m at *
  generalize hasV fs s = v at *
  generalize hasA fs s = a at *
  cases m <;> cases v <;> cases a
  all_goals
    go_enter Tryz.func83, Tryz.ntmps83
    go_wp2_with (first
      | (go_at_call 127; ((with_reducible refine M.out.mono ?_); rintro e w1 ⟨rfl, hb⟩; have HB := Lib.hid hb; clear hb))
      | (go_at_call 128; ((with_reducible refine (V.out _ HB.out).mono ?_); rintro e w2 ⟨rfl, hb⟩; have HB2 := Lib.hid (HB.out.then_ hb); clear hb))
      | (go_at_call 129; ((with_reducible refine (A.out _ HB2.out).mono ?_); rintro e w3 ⟨rfl, rfl⟩)))
    go_ret; exact tBool_mk (by rw [E.out]; rfl) (by first | exact HB2.out | exact HB.out)
set_option maxHeartbeats 1000000 in
theorem arrE_any (fb : Nat) (fs : List Fld) (s : ByteArray) (w : World) (hf : FsA w fb fs) (hs : s.size ≤ 140737488351232) :
    Calls Tryz.prog 98 #[.map (some fb), .string s] w fun e w' => e = .returned (.int .i64 (arrE fs s)) ∧ w = w' := by
  have P := Lib.hid (hasP_any fb fs s w hf hs); have A := Lib.hid (hasA_any fb fs s w hf hs); have E : Hid (arrE fs s = if hasP fs s = true then 9 else if hasA fs s = true then 0 else 7) := Lib.hid rfl; clear hf hs; generalize hasP fs s = p at *
  generalize hasA fs s = a at *
  cases p <;> cases a
  all_goals
    go_enter Tryz.func98, Tryz.ntmps98
    go_wp2_with (first
      | (go_at_call 149; ((with_reducible refine P.out.mono ?_); rintro e w1 ⟨rfl, rfl⟩))
      | (go_at_call 129; ((with_reducible refine A.out.mono ?_); rintro e w2 ⟨rfl, rfl⟩)))
    go_ret; exact ⟨by rw [E.out]; rfl, rfl⟩
set_option maxHeartbeats 1000000 in
theorem varE_any (fb : Nat) (fs : List Fld) (s : ByteArray) (w : World) (hf : FsA w fb fs) (hs : s.size ≤ 140737488351232) (hv : varB s.data.toList = true) :
    Calls Tryz.prog 99 #[.map (some fb), .string s] w (tInt (varE fs s) w) := by
  have A := Lib.hid (hasA_any fb fs s w hf hs); have M := Lib.hid (misP_any fb fs s w hf hs hv); have V : Hid (∀ W, Below w.heap.size w W → Calls Tryz.prog 128 #[.map (some fb), .string s] W (tBool (hasV fs s) W)) := (Lib.hid fun W hW => hasV_any fb fs s W (hf.later hW) hs hv); have E : Hid (varE fs s = if (hasA fs s || misP fs s) = true then 9 else if hasV fs s = true then 0 else 7) := Lib.hid rfl; have HB0 := Lib.hid (Below.refl w.heap.size w); clear hf hs hv; generalize misP fs s = m at *
  generalize hasV fs s = v at *
  generalize hasA fs s = a at *
  cases a <;> cases m <;> cases v
  all_goals
    go_enter Tryz.func99, Tryz.ntmps99
    go_wp2_with (first
      | (go_at_call 129; ((with_reducible refine A.out.mono ?_); rintro e w3 ⟨rfl, rfl⟩))
      | (go_at_call 127; ((with_reducible refine M.out.mono ?_); rintro e w1 ⟨rfl, hb⟩; have HB := Lib.hid hb; clear hb))
      | (go_at_call 128; ((with_reducible refine (V.out _ HB.out).mono ?_); rintro e w2 ⟨rfl, hb⟩; have HB2 := Lib.hid (HB.out.then_ hb); clear hb)))
    go_ret; exact ExW.tInt_mk (by rw [E.out]; rfl) (by first | exact HB2.out | exact HB.out | exact HB0.out)
end Go.Proofs.YtpejflgdehioaaaGreatDoor.ItW
