/-
  Laws that the card uses; no conditions beside those that each states (ItCount2).
-/
import Derived.Test.YtpejflgdehioaaaGreatDoorT27
namespace Go.Proofs.YtpejflgdehioaaaGreatDoor.ItW
open Go Go.RowKit Go.«Sort» Go.Proofs.YtpejflgdehioaaaGreatDoor.NumM Go.Proofs.YtpejflgdehioaaaGreatDoor.LexW Go.Proofs.YtpejflgdehioaaaGreatDoor.LexM Go.Proofs.YtpejflgdehioaaaGreatDoor.ExM Go.Proofs.YtpejflgdehioaaaGreatDoor.ExW Go.Proofs.YtpejflgdehioaaaGreatDoor.ItM
open Go.Proofs.YtpejflgdehioaaaGreatDoor.ClM (Fld)
set_option maxRecDepth 100000 in
set_option maxHeartbeats 8000000 in
theorem countOf_any (fb : Nat) (fs : List Fld) (hS : ∀ f ∈ fs, 0 ≤ f.sz ∧ f.sz ≤ 8) (x : It) (a4 a7 a8 a9 a10 a11 : Value) (N : Nat) (w : World) (hf : FsA w fb fs) (h : IV N w a4 a7 a8 a9 a10 a11 x)
    (b1 : 0 ≤ cntL fs x.it ∧ cntL fs x.it ≤ 1000000000000) (b2 : 0 ≤ cntL fs x.el ∧ cntL fs x.el ≤ 1000000000000)
    (C1 : ∀ W, Below w.heap.size w W → Calls Tryz.prog 86 #[.map (some fb), a8] W (tInt (cntL fs x.it) W)) (C2 : ∀ W, Below w.heap.size w W → Calls Tryz.prog 86 #[.map (some fb), a9] W (tInt (cntL fs x.el) W)) :
    Calls Tryz.prog 131 #[.map (some fb), iv x.kd x.e.op x.e.n x.e.nm a4 x.nm x.ix a7 a8 a9 a10 a11] w (tInt (cntI fs x) w) := by
  have hl0 : ∀ W, Below w.heap.size w W → (Instr.lookup 79 (.map (some fb)) (.string x.nm) false).run Tryz.prog W = .ok (.int .i64 (szI fs x.nm)) W := (fun W hW => (hf.later hW).look x.nm h.nm); have hsb := cntL_bound fs hS x.nm; have EE : Hid (cntI fs x = if x.kd = 4 then cntL fs x.it + cntL fs x.el else if x.kd = 5 then cntL fs x.it * min (szI fs x.nm) 401 else 1) := Lib.hid (cntI_eq fs x); obtain ⟨kd, o, n, en, p4, k4, c4, nm, ix, p7, k7, c7, p8, k8, c8, p9, k9, c9, p10, k10, c10, p11, k11, c11, ev, hv⟩ := h.open_; have ev2 := ev; simp only [Value.agg.injEq, Array.mk.injEq, List.cons.injEq] at ev2; obtain ⟨-, -, -, -, rfl, -, -, rfl, rfl, rfl, rfl, rfl, -⟩ := ev2; rw [ev]; rw [hv.e5] at hl0 hsb; have EE2 := EE.out; rw [hv.e0, hv.e5] at EE2; have EE := Lib.hid EE2; clear EE2; obtain ⟨cs, hcs⟩ : ∃ cs, cs = ics kd o n en (.slice p4 k4 c4) nm ix (.slice p7 k7 c7) (.slice p8 k8 c8) (.slice p9 k9 c9) (.slice p10 k10 c10) (.slice p11 k11 c11) := ⟨_, rfl⟩; have F0 := Blk.new w cs 55; have HB := Lib.hid (ba w (.cells cs.toArray 55)); have E1 := reB (v := .int .i64 (cntL fs x.it)) (fun W hW => C1 W (HB.out.then_ hW)); have E2 := reB (v := .int .i64 (cntL fs x.el)) (fun W hW => C2 W (HB.out.then_ hW)); have HC1 := Lib.hid (C1 _ HB.out); have hlk := hl0 _ HB.out; have HL := Lib.hid hl0; subst hcs; have d0 := F0.c 0 _ rfl; have d5 := F0.c 5 _ rfl; have d8 := F0.c 8 _ rfl; have d9 := F0.c 9 _ rfl; have HF := Lib.hid F0; clear F0 ev hv h hl0 C1 C2; generalize cntL fs x.it = A at *
  generalize cntL fs x.el = B at *
  generalize szI fs nm = z at *
  by_cases h4 : kd = 4
  · subst h4; have E : Hid (A + B = cntI fs x) := Lib.hid (by rw [EE.out]; rfl); have m8 := cell_regrown d8; have m9 := cell_regrown d9
    go_enter Tryz.func131, Tryz.ntmps131
    go_wp2; refine wp_region_quiet_below (by kernel_rfl) (by kernel_rfl) ?_; repeat (first | go_big_quiet_step ((go_at_call 86; first | with_reducible exact E1 _ _ | with_reducible exact E2 _ _)) | quiet_step ((go_at_call 86; first | with_reducible exact E1 _ _ | with_reducible exact E2 _ _)))
    refine wpQuiet_nil ?_; intro w4 hw'; obtain ⟨pq, hw''⟩ := hw'; have HX := Lib.hid (HB.out.then_ (by rw [hw'']; exact below_regrown _ _ _ : Below _ _ w4)); clear hw'' E1 E2 m8 m9; go_wp2; go_ret; exact ExW.tInt_mk E.out HX.out
  · have f4 : (kd == 4) = false := (by rw [beq_eq_false_iff_ne]; exact h4); by_cases h5 : kd = 5
    · subst h5; have E : Hid (A * min z 401 = cntI fs x) := Lib.hid (by rw [EE.out]; rfl); have hmin : min z 401 = z := (by omega); rw [hmin] at E; have hz0 := hsb.1; have hz8 := hsb.2; have hm1 : 0 ≤ A * z := Int.mul_nonneg b1.1 hz0; have hm2 : A * z ≤ 1000000000000 * 8 := Int.mul_le_mul b1.2 hz8 hz0 (by omega); obtain ⟨M, hM⟩ : ∃ M, A * z = M := ⟨_, rfl⟩; have m8 := cell_regrown d8; have m5 := cell_regrown d5; have hlkR : ∀ d os, (Instr.lookup 79 (.map (some fb)) (.string nm) false).run Tryz.prog (grow (redrawn (w.alloc (.cells (ics 5 o n en (.slice p4 k4 c4) nm ix (.slice p7 k7 c7) (.slice p8 k8 c8) (.slice p9 k9 c9) (.slice p10 k10 c10) (.slice p11 k11 c11)).toArray 55)) d) os) = .ok (.int .i64 z) (grow (redrawn (w.alloc (.cells (ics 5 o n en (.slice p4 k4 c4) nm ix (.slice p7 k7 c7) (.slice p8 k8 c8) (.slice p9 k9 c9) (.slice p10 k10 c10) (.slice p11 k11 c11)).toArray 55)) d) os) := (fun d os => HL.out _ (HB.out.then_ (below_regrown _ d os))); clear h4 f4
      go_enter Tryz.func131, Tryz.ntmps131
      go_wp2; refine wp_region_quiet_below (by kernel_rfl) (by kernel_rfl) ?_; repeat (first | go_big_quiet_step ((go_at_call 86; with_reducible exact E1 _ _)) | quiet_step ((go_at_call 86; with_reducible exact E1 _ _)))
      refine wpQuiet_nil ?_; intro w4 hw'; obtain ⟨pq, hw''⟩ := hw'; have HX := Lib.hid (HB.out.then_ (by rw [hw'']; exact below_regrown _ _ _ : Below _ _ w4)); clear hw'' E1 E2 m8 m5 hlkR; go_wp2; go_ret; exact ExW.tInt_mk (by rw [← E.out, hM]) HX.out
    · have E : Hid (1 = cntI fs x) := Lib.hid (by rw [EE.out, if_neg h4, if_neg h5]); have f5 : (kd == 5) = false := (by rw [beq_eq_false_iff_ne]; exact h5); clear h4 h5
      go_enter Tryz.func131, Tryz.ntmps131
      go_wp2; go_ret; exact ExW.tInt_mk E.out HB.out
theorem cntL_take {fs : List Fld} {k : Nat} {l : List It} {a : It} (h : l[k]? = some a) : cntL fs (l.take (k + 1)) = cntL fs (l.take k) + cntI fs a := by
  obtain ⟨hk, he⟩ := List.getElem?_eq_some_iff.1 h; rw [List.take_succ_eq_append_getElem hk, he]; have : ∀ (x y : List It), cntL fs (x ++ y) = cntL fs x + cntL fs y := by
    intro x y; induction x with
    | nil => rw [List.nil_append, cntL_nil]; omega
    | cons b r ih => rw [List.cons_append, cntL_cons, cntL_cons, ih]; omega
  rw [this, cntL_cons, cntL_nil]; omega
theorem dpt_take {k : Nat} {l : List It} (h : dpt k l) (j : Nat) : dpt k (l.take j) := by
  cases k with
  | zero =>
    have h0 : l = [] := h; subst h0; rw [List.take_nil]; rfl
  | succ k => exact fun x hx => h x (List.mem_of_mem_take hx)
set_option maxRecDepth 100000 in
set_option maxHeartbeats 8000000 in
theorem count_any (fb : Nat) (fs : List Fld) (hS : ∀ f ∈ fs, 0 ≤ f.sz ∧ f.sz ≤ 8) (l : List It) : ∀ (k : Nat) (v : Value) (N : Nat) (w : World), dpt k l → k ≤ 6 → iszs l ≤ 10000 → FsA w fb fs → ItsA N w v l → N ≤ w.heap.size →
    Calls Tryz.prog 86 #[.map (some fb), v] w (tInt (cntL fs l) w) := by
  induction l using its_ind with
  | h l ih =>
    intro k v N w hd hk hz hf hx hN; obtain ⟨p, cap, V, rfl, hr⟩ := hx.form; have hl := hr.hl; have HR := Lib.hid hr; have HF := Lib.hid hf; have HIH := Lib.hid ih; have HD := Lib.hid hd; have hbk : (8 : Int) ^ k ≤ 262144 := by
      have : k = 0 ∨ k = 1 ∨ k = 2 ∨ k = 3 ∨ k = 4 ∨ k = 5 ∨ k = 6 := (by omega); rcases this with rfl | rfl | rfl | rfl | rfl | rfl | rfl <;> decide
    have HBD : Hid (∀ m : List It, ∀ j, dpt j m → j ≤ 6 → iszs m ≤ 10000 → 0 ≤ cntL fs m ∧ cntL fs m ≤ 1000000000000) := Lib.hid (fun m j hm hj hzm => by
      have h1 := cntL_le fs hS m j hm; have h2 : (8 : Int) ^ j ≤ 262144 := by
        have : j = 0 ∨ j = 1 ∨ j = 2 ∨ j = 3 ∨ j = 4 ∨ j = 5 ∨ j = 6 := (by omega); rcases this with rfl | rfl | rfl | rfl | rfl | rfl | rfl <;> decide
      have h3 : (iszs m : Int) * 8 ^ j ≤ 10000 * 262144 := Int.mul_le_mul (by omega) h2 (Int.le_of_lt (Int.pow_pos (by omega))) (by omega); omega)
    obtain ⟨K, hK⟩ : ∃ K, l.length = K := ⟨_, rfl⟩; have HK := Lib.hid hK; rw [hK] at hl ⊢; have hk47 : K ≤ 140737488351232 := (by omega); clear hK hr ih hx hf hd hbk; have HB0 := Lib.hid (Below.refl w.heap.size w)
    go_enter Tryz.func86, Tryz.ntmps86
    go_wp2; go_loopw [5, 10] (fun t i wr => ∃ j : Nat, j ≤ K ∧ i = .int .i64 j ∧ t = .int .i64 (cntL fs (l.take j)) ∧ Hid (Below w.heap.size w wr)) (fun _ i _ => K - (intOf i).toNat)
    case atStart => exact ⟨0, Nat.zero_le _, rfl, by rw [List.take_zero, cntL_nil], HB0⟩
    case round =>
      obtain ⟨j, hj, rfl, rfl, BW⟩ := hrel; by_cases hlt : j < K
      · obtain ⟨a, ha⟩ : ∃ a, l[j]? = some a := ⟨_, List.getElem?_eq_getElem (by rw [HK.out]; exact hlt)⟩; have hbw : Below N w wr := BW.out.mono hN; have hr2 := HR.out.under hbw; obtain ⟨b, off, rfl, hb, hcell⟩ := hr2.hp (by rw [HK.out]; omega); have hva := hr2.hv j a ha; obtain ⟨g0, g1, g2, g3, g4, g5, g6, g7, g8, g9, g10, g11⟩ := hcell j a ha; have hmem := List.mem_of_getElem? ha; have hsa := iszs_take ha; have hsb := iszs_take_le (j + 1) l; have hse := isz_eq a; have hkd : ∃ k', dpt k' a.it ∧ dpt k' a.el ∧ k' ≤ 6 := by
          cases k with
          | zero => have := HD.out; have h0 : l = [] := this; rw [h0] at hmem; cases hmem
          | succ k => exact ⟨k, (HD.out a hmem).1, (HD.out a hmem).2, by omega⟩
        obtain ⟨k', hd1, hd2, hk'⟩ := hkd; have CO : ∀ W, Below wr.heap.size wr W → Calls Tryz.prog 131 #[.map (some fb), iv a.kd a.e.op a.e.n a.e.nm (V j 4) a.nm a.ix (V j 7) (V j 8) (V j 9) (V j 10) (V j 11)] W (tInt (cntI fs a) W) := fun W hW => by
          have hNW : N ≤ wr.heap.size := (by have := BW.out.size; omega); have hW2 := hW.mono hNW; refine countOf_any fb fs hS a _ _ _ _ _ _ N W ((HF.out.later BW.out).later hW) (hva.under hW2) (HBD.out a.it k' hd1 hk' (by omega)) (HBD.out a.el k' hd2 hk' (by omega)) (fun W' hW' => ?_) (fun W' hW' => ?_)
          · exact (HIH.out a hmem).1 k' _ N W' hd1 hk' (by omega) (((HF.out.later BW.out).later hW).later hW') ((hva.its.under hW2).under (hW'.mono (by have := hW.size; omega))) (by have := hW.size; have := hW'.size; omega)
          · exact (HIH.out a hmem).2 k' _ N W' hd2 hk' (by omega) (((HF.out.later BW.out).later hW).later hW') ((hva.els.under hW2).under (hW'.mono (by have := hW.size; omega))) (by have := hW.size; have := hW'.size; omega)
        obtain ⟨p4, k4, p7, k7, p8, k8, p9, k9, p10, k10, p11, k11, e4, e7, e8, e9, e10, e11⟩ := hva.slices; rw [e4] at g4; rw [e7] at g7; rw [e8] at g8; rw [e9] at g9; rw [e10] at g10; rw [e11] at g11; rw [e4, e7, e8, e9, e10, e11] at CO; have CO := Lib.hid (CO _ (ba wr (.cells (ics a.kd a.e.op a.e.n a.e.nm (.slice p4 a.e.args.length k4) a.nm a.ix (.slice p7 a.ws.length k7) (.slice p8 a.it.length k8) (.slice p9 a.el.length k9) (.slice p10 a.bf.length k10) (.slice p11 a.af.length k11)).toArray 55))); have HB1 := Lib.hid (BW.out.then_ (ba wr (.cells (ics a.kd a.e.op a.e.n a.e.nm (.slice p4 a.e.args.length k4) a.nm a.ix (.slice p7 a.ws.length k7) (.slice p8 a.it.length k8) (.slice p9 a.el.length k9) (.slice p10 a.bf.length k10) (.slice p11 a.af.length k11)).toArray 55))); have hct := cntL_take (fs := fs) ha; have hb1 := HBD.out (l.take j) k (dpt_take HD.out j) hk (by have := iszs_take_le j l; omega); have hb2 := HBD.out (l.take (j + 1)) k (dpt_take HD.out (j + 1)) hk (by have := iszs_take_le (j + 1) l; omega); have HCT := Lib.hid hct; have hb3 : 0 ≤ cntL fs (l.take j) + cntI fs a ∧ cntL fs (l.take j) + cntI fs a ≤ 1000000000000 := (by rw [← hct]; exact hb2); clear hct hb2 hcell hva hbw e4 e7 e8 e9 e10 e11 hr2; generalize cntL fs (l.take j) = T0 at *
        generalize cntI fs a = T1 at *
        go_wp2_with (go_at_call 131; ((with_reducible refine CO.out.mono ?_); rintro e w1 ⟨rfl, hb1'⟩; have HB2 := Lib.hid (HB1.out.then_ hb1'); clear hb1'))
        go_roundw
        case rel => exact ⟨j + 1, by omega, by go_num, by rw [HCT.out], HB2⟩
        case measure => simp [intOf]; omega
      · have HT : Hid (cntL fs (l.take j) = cntL fs l) := Lib.hid (by rw [List.take_of_length_le (by rw [HK.out]; omega)]); go_wp2; go_ret; exact ExW.tInt_mk HT.out BW.out
end Go.Proofs.YtpejflgdehioaaaGreatDoor.ItW
