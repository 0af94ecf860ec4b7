/-
  Laws that the card uses; no conditions beside those that each states (ItRWr ItChkI ItVar ItCho ItElm).
-/
import Derived.Test.YtpejflgdehioaaaGreatDoorT23
import Derived.Test.YtpejflgdehioaaaGreatDoorT26
import Derived.Test.YtpejflgdehioaaaGreatDoorT33
import Derived.Test.YtpejflgdehioaaaGreatDoorT34
namespace Go.Proofs.YtpejflgdehioaaaGreatDoor.ItW
open Go Go.RowKit Go.Proofs.YtpejflgdehioaaaGreatDoor.NumM Go.Proofs.YtpejflgdehioaaaGreatDoor.LexW Go.Proofs.YtpejflgdehioaaaGreatDoor.LexM Go.Proofs.YtpejflgdehioaaaGreatDoor.ExM Go.Proofs.YtpejflgdehioaaaGreatDoor.ExW Go.Proofs.YtpejflgdehioaaaGreatDoor.ItM
set_option maxRecDepth 100000 in
set_option maxHeartbeats 4000000 in
theorem varsR_any (l : List ByteArray) (v : Value) (N : Nat) (w : World) (ha : StA N w v l) (hN : N ≤ w.heap.size) :
    Calls Tryz.prog 121 #[v] w (tBool (!l.any noVar) w) := by
  obtain ⟨p, cap, rfl, hl, hc0, hz, hp⟩ := ha; have HP := Lib.hid hp; have HZ := Lib.hid hz; obtain ⟨K, hK⟩ : ∃ K, l.length = K := ⟨_, rfl⟩; have HK := Lib.hid hK; rw [hK] at hl ⊢; have hk : K ≤ 140737488351232 := (by omega); clear hK hl hp hz; have HB0 := Lib.hid (Below.refl w.heap.size w)
  go_enter Tryz.func121, Tryz.ntmps121
  go_wp2; go_loopw [3] (fun i wr => ∃ j : Nat, j ≤ K ∧ i = .int .i64 j ∧ Hid ((l.take j).any noVar = false) ∧ Hid (Below w.heap.size w wr)) (fun i _ => K - (intOf i).toNat)
  case atStart => exact ⟨0, Nat.zero_le _, rfl, Lib.hid rfl, HB0⟩
  case round =>
    obtain ⟨j, hj, rfl, FN, BW⟩ := hrel; by_cases hlt : j < K
    · obtain ⟨c, hc⟩ : ∃ c, l[j]? = some c := ⟨_, List.getElem?_eq_getElem (by rw [HK.out]; exact hlt)⟩; have hbw : Below N w wr := BW.out.mono hN; obtain ⟨b, off, rfl, hb, hcell⟩ := HP.out (by rw [HK.out]; omega); have c0 := low_cells hbw _ _ hb _ (hcell j c hc); have CC0 := isVarR_any c wr (HZ.out c (List.mem_of_getElem? hc)); have HC := Lib.hid hc; clear hc hbw hcell; have hv : varB c.data.toList = !noVar c := (by unfold noVar; rw [Bool.not_not]); rw [hv] at CC0; have CC := Lib.hid CC0; clear CC0 hv; cases hs : noVar c
      · have FN2 := Lib.hid (any_next HC.out hs FN.out); rw [hs] at CC; clear hs; go_wp2_with (go_at_call 166; ((with_reducible refine CC.out.mono ?_); rintro e w1 ⟨rfl, hb1⟩; have HB1 := Lib.hid (BW.out.then_ hb1); clear hb1))
        go_roundw
        case rel => exact ⟨j + 1, by omega, by go_num, FN2, HB1⟩
        case measure => simp [intOf]; omega
      · have FS := Lib.hid (any_at HC.out hs); rw [hs] at CC; clear hs; go_wp2_with (go_at_call 166; ((with_reducible refine CC.out.mono ?_); rintro e w1 ⟨rfl, hb1⟩; have HB1 := Lib.hid (BW.out.then_ hb1); clear hb1))
        go_ret; exact ⟨by rw [FS.out]; rfl, HB1.out⟩
    · have FN2 : Hid (l.any noVar = false) := Lib.hid (by have := FN.out; rw [List.take_of_length_le (by rw [HK.out]; omega)] at this; exact this); go_wp2; go_ret; exact ⟨by rw [FN2.out]; rfl, BW.out⟩
theorem tInt_mk {n m : Int} {w w' : World} (h : n = m) (hb : Below w.heap.size w w') : tInt n w (.returned (.int .i64 m)) w' := by subst h; exact ⟨rfl, hb⟩
theorem wrong_mk (t : Wt) : wrongW t = (decide (t.lo < 0) || (decide (t.hi < t.lo) || (decide (65535 < t.hi) || (decide (t.wt < 0) || decide (1000 < t.wt))))) := rfl
set_option maxRecDepth 100000 in
set_option maxHeartbeats 16000000 in
theorem distR_any (x : It) (a4 a7 a8 a9 a10 a11 : Value) (N : Nat) (w : World) (h : IV N w a4 a7 a8 a9 a10 a11 x) (hN : N ≤ w.heap.size) :
    Calls Tryz.prog 120 #[iv x.kd x.e.op x.e.n x.e.nm a4 x.nm x.ix a7 a8 a9 a10 a11] w (tInt (distE x) w) := by
  have hw := h.wt; have hnm := h.nm; obtain ⟨kd, o, n, en, p4, k4, c4, nm, ix, p7, k7, c7, p8, k8, c8, p9, k9, c9, p10, k10, c10, p11, k11, c11, ev, hv⟩ := h.open_; have ev2 := ev; simp only [Value.agg.injEq, Array.mk.injEq, List.cons.injEq] at ev2; obtain ⟨-, -, -, -, rfl, -, -, rfl, rfl, rfl, rfl, rfl, -⟩ := ev2; rw [ev]; obtain ⟨e0, e1, e2, e3, e5, e6, l4, l7, l8, l9, l10, l11, -⟩ := hv; rw [e5] at hnm; have EE : Hid (distE x = if 16 < k7 then 2 else if k7 = 0 ∨ x.ws.any wrongW = true then 1 else if noVar nm = true then 7 else 0) := Lib.hid (by unfold distE; rw [e5, l7]); obtain ⟨p, cap, ew, hl, hc0, hp⟩ := hw; rw [l7] at ew hl; simp only [Value.slice.injEq, true_and] at ew; obtain ⟨rfl, rfl⟩ := ew; have HP := Lib.hid hp; have HK : Hid (x.ws.length = k7) := Lib.hid l7; have hk : k7 ≤ 140737488351232 := (by omega); clear h ev e0 e1 e2 e3 e5 e6 l4 l7 l8 l9 l10 l11 hp hl; obtain ⟨cs, hcs⟩ : ∃ cs, cs = ics kd o n en (.slice p4 k4 c4) nm ix (.slice p7 k7 c7) (.slice p8 k8 c8) (.slice p9 k9 c9) (.slice p10 k10 c10) (.slice p11 k11 c11) := ⟨_, rfl⟩; have F0 := Blk.new w cs 55; have HB := Lib.hid (ba w (.cells cs.toArray 55)); subst hcs; have d7 := F0.c 7 _ rfl; have HF := Lib.hid F0; have hs0 := World.size_alloc w (.cells (ics kd o n en (.slice p4 k4 c4) nm ix (.slice p7 k7 c7) (.slice p8 k8 c8) (.slice p9 k9 c9) (.slice p10 k10 c10) (.slice p11 k11 c11)).toArray 55); have HS0 := Lib.hid hs0; clear F0 hs0; by_cases h16 : 16 < k7
  · have d16 : decide ((16 : Int) < (k7 : Int)) = true := decide_eq_true (by omega)
    go_enter Tryz.func120, Tryz.ntmps120
    go_wp2; go_ret; exact tInt_mk (by rw [EE.out, if_pos h16]) HB.out
  · have d16 : decide ((16 : Int) < (k7 : Int)) = false := decide_eq_false (by omega); by_cases h00 : k7 = 0
    · subst h00
      go_enter Tryz.func120, Tryz.ntmps120
      go_wp2; go_ret; exact tInt_mk (by rw [EE.out]; rfl) HB.out
    · have f0 : ((k7 : Int) == 0) = false := (by rw [beq_eq_false_iff_ne]; omega); obtain ⟨b, off, rfl, hb, hcell⟩ := HP.out (by rw [HK.out]; omega); have EE2 : Hid (distE x = if x.ws.any wrongW = true then 1 else if noVar nm = true then 7 else 0) := Lib.hid (by
        rw [EE.out, if_neg h16]; by_cases hq : x.ws.any wrongW = true
        · rw [if_pos (.inr hq), if_pos hq]
        · rw [if_neg (fun e => e.elim h00 hq), if_neg hq])
      have HC := Lib.hid hcell; have VC0 := (fun W => isVarR_any nm W hnm); have hvv : varB nm.data.toList = !noVar nm := (by unfold noVar; rw [Bool.not_not]); rw [hvv] at VC0; have VC := Lib.hid VC0; clear hcell EE VC0 hvv h00; generalize x.ws = ws at *
      go_enter Tryz.func120, Tryz.ntmps120
      go_wp2; obtain ⟨W0, hW0⟩ : ∃ W0, w.alloc (.cells (ics kd o n en (.slice p4 k4 c4) nm ix (.slice (some ⟨b, off, none⟩) k7 c7) (.slice p8 k8 c8) (.slice p9 k9 c9) (.slice p10 k10 c10) (.slice p11 k11 c11)).toArray 55) = W0 := ⟨_, rfl⟩; simp only [List.toArray] at hW0; have HB' := HB; have HF' := HF; simp only [List.toArray] at HB' HF'; rw [hW0] at HB' HF' ⊢; clear hW0 HB HF d7; go_loopw [3] (fun i wr => ∃ j : Nat, j ≤ k7 ∧ i = .int .i64 j ∧ Hid ((ws.take j).any wrongW = false) ∧ Hid (Below w.heap.size w wr) ∧ Hid (Blk wr w.heap.size (ics kd o n en (.slice p4 k4 c4) nm ix (.slice (some ⟨b, off, none⟩) k7 c7) (.slice p8 k8 c8) (.slice p9 k9 c9) (.slice p10 k10 c10) (.slice p11 k11 c11)))) (fun i _ => k7 - (intOf i).toNat)
      case atStart => exact ⟨0, Nat.zero_le _, rfl, Lib.hid rfl, HB', HF'⟩
      case round =>
        obtain ⟨j, hj, rfl, FN, BW, FW⟩ := hrel; have d7 := FW.out.c 7 _ rfl; have d5 := FW.out.c 5 _ rfl; by_cases hlt : j < k7
        · obtain ⟨t, ht⟩ : ∃ t, ws[j]? = some t := ⟨_, List.getElem?_eq_getElem (by rw [HK.out]; exact hlt)⟩; obtain ⟨q0, q1, q2, q3⟩ := HC.out j t ht; have hbw : Below N w wr := BW.out.mono hN; have c0 := low_cells hbw _ _ hb _ q0; have c1 := low_cells hbw _ _ hb _ q1; have c2 := low_cells hbw _ _ hb _ q2; have c3 := low_cells hbw _ _ hb _ q3; have BW2 := Lib.hid (BW.out.then_ (ba wr (.cells #[.int .i64 t.lo, .int .i64 t.hi, .int .i64 t.wt, .bool t.ea] 130))); have FW2 := Lib.hid (FW.out.stay (ba wr (.cells #[.int .i64 t.lo, .int .i64 t.hi, .int .i64 t.wt, .bool t.ea] 130))); have HWR := Lib.hid (wrong_mk t); cases hs : wrongW t
          · have FN2 := Lib.hid (any_next ht hs FN.out); obtain ⟨r1, r2, r3, r4, r5⟩ : ¬ t.lo < 0 ∧ ¬ t.hi < t.lo ∧ ¬ 65535 < t.hi ∧ ¬ t.wt < 0 ∧ ¬ 1000 < t.wt := by
              have := HWR.out; rw [hs] at this; have := this.symm; simp only [Bool.or_eq_false_iff, decide_eq_false_iff_not] at this; exact ⟨this.1, this.2.1, this.2.2.1, this.2.2.2.1, this.2.2.2.2⟩
            clear HWR; clear hs ht q0 q1 q2 q3; generalize t.lo = tl at *
            generalize t.hi = th at *
            generalize t.wt = tw at *
            generalize t.ea = te at *
            go_wp2; go_roundw
            case rel => exact ⟨j + 1, by omega, by go_num, FN2, BW2, FW2⟩
            case measure => simp [intOf]; omega
          · have FS := Lib.hid (any_at ht hs); have E : Hid (distE x = 1) := Lib.hid (by rw [EE2.out, if_pos FS.out]); have hOR : t.lo < 0 ∨ t.hi < t.lo ∨ 65535 < t.hi ∨ t.wt < 0 ∨ 1000 < t.wt := by
              have := HWR.out; rw [hs] at this; have := this.symm; simp only [Bool.or_eq_true, decide_eq_true_eq] at this; exact this
            have HOR := Lib.hid hOR; clear HWR hOR; clear hs ht q0 q1 q2 q3; generalize t.lo = tl at *
            generalize t.hi = th at *
            generalize t.wt = tw at *
            generalize t.ea = te at *
            by_cases r1 : tl < 0
            · go_wp2; go_ret; exact tInt_mk E.out BW2.out
            · by_cases r2 : th < tl
              · go_wp2; go_ret; exact tInt_mk E.out BW2.out
              · by_cases r3 : 65535 < th
                · go_wp2; go_ret; exact tInt_mk E.out BW2.out
                · by_cases r4 : tw < 0
                  · go_wp2; go_ret; exact tInt_mk E.out BW2.out
                  · have r5 : 1000 < tw := by
                      have := HOR.out; omega
                    go_wp2; go_ret; exact tInt_mk E.out BW2.out
        · have FN2 : Hid (ws.any wrongW = false) := Lib.hid (by have := FN.out; rw [List.take_of_length_le (by rw [HK.out]; omega)] at this; exact this); have E : Hid (distE x = if noVar nm = true then 7 else 0) := Lib.hid (by rw [EE2.out, FN2.out]; rfl); generalize noVar nm = q at *
          cases q
          · go_wp2_with (go_at_call 166; ((with_reducible refine (VC.out _).mono ?_); rintro e w1 ⟨rfl, hb1⟩; have HB1 := Lib.hid (BW.out.then_ hb1); clear hb1))
            go_ret; exact tInt_mk (by rw [E.out]; rfl) HB1.out
          · go_wp2_with (go_at_call 166; ((with_reducible refine (VC.out _).mono ?_); rintro e w1 ⟨rfl, hb1⟩; have HB1 := Lib.hid (BW.out.then_ hb1); clear hb1))
            go_ret; exact tInt_mk (by rw [E.out]; rfl) HB1.out
end Go.Proofs.YtpejflgdehioaaaGreatDoor.ItW
namespace Go.Proofs.YtpejflgdehioaaaGreatDoor.ItW
open Go Go.RowKit Go.Proofs.YtpejflgdehioaaaGreatDoor.NumM Go.Proofs.YtpejflgdehioaaaGreatDoor.LexW Go.Proofs.YtpejflgdehioaaaGreatDoor.LexM Go.Proofs.YtpejflgdehioaaaGreatDoor.ExM Go.Proofs.YtpejflgdehioaaaGreatDoor.ExW Go.Proofs.YtpejflgdehioaaaGreatDoor.ItM
open Go.Proofs.YtpejflgdehioaaaGreatDoor.ClM (Fld firstE firstE_zero)
theorem pre_names {N : Nat} {w : World} (e : Ex) : ∀ (v : Value) (l : Nat), ExAt N w v e → ∀ y ∈ pre l e, y.nm.size ≤ 140737488351232 := by
  induction e using Ex.ind with
  | h o n s ks ih =>
    intro v l h y hy; obtain ⟨p, cap, pl, cl, _, hs, ha⟩ := h.form; rw [pre_mk] at hy; rcases List.mem_cons.1 hy with rfl | hy
    · exact hs
    · obtain ⟨a, hm, hya⟩ := mem_pres.1 hy; obtain ⟨i, hi⟩ := List.getElem?_of_mem hm; exact ih a hm _ _ (ha.hx i a hi) y hya
structure FineI (x : It) : Prop where
  k : kindB x.kd = true
  free : freeB x = true
  d3 : x.kd = 3 → varB x.nm.data.toList = true
  d6 : x.kd = 6 → ∀ s ∈ x.bf ++ x.af, varB s.data.toList = true
  d5 : x.kd = 5 → nameB x.nm = true ∧ nameB x.ix = true
  dE : x.kd ≠ 3 → x.kd ≠ 6 → x.kd ≠ 5 → vld x.e = 0
theorem not_noVar {s : ByteArray} (h : noVar s = false) : varB s.data.toList = true := by unfold noVar at h; simpa using h
theorem fine_of {d : Nat} {x : It} (h : fltI d x = 0) : FineI x := by
  unfold fltI at h; by_cases h1 : (!kindB x.kd || (!freeB x || (decide (4 < d) || (decide (0 < d) && outK x.kd)))) = true
  · rw [if_pos h1] at h; cases h
  · rw [if_neg h1] at h; have h2 : kindB x.kd = true ∧ freeB x = true := by
      cases hk : kindB x.kd <;> cases hf : freeB x <;> simp_all
    refine ⟨h2.1, h2.2, fun e => ?_, fun e => ?_, fun e => ?_, fun n3 n6 n5 => ?_⟩
    · rw [if_pos e] at h; unfold distE at h; split at h
      · cases h
      · split at h
        · cases h
        · split at h
          · cases h
          · rename_i g; exact not_noVar (by simpa using g)
    · rw [if_neg (by omega), if_pos e] at h; unfold solveE at h; split at h
      · cases h
      · split at h
        · cases h
        · rename_i g; intro s hs; refine not_noVar ?_; have g1 : x.bf.any noVar = false ∧ x.af.any noVar = false := by
            cases hb : x.bf.any noVar <;> cases ha : x.af.any noVar <;> simp_all
          rcases List.mem_append.1 hs with hs | hs
          · have := List.any_eq_false.1 g1.1 s hs; simpa using this
          · have := List.any_eq_false.1 g1.2 s hs; simpa using this
    · rw [if_neg (by omega), if_neg (by omega), if_pos e] at h; split at h
      · assumption
      · cases h
    · rw [if_neg n3, if_neg n6, if_neg n5] at h; exact h
def NamesP (l : List ByteArray) (w : World) (e : Ending) (w' : World) : Prop := ∃ v', e = .returned v' ∧ StA w'.heap.size w' v' l ∧ (∀ ad n c, v' = .slice (some ad) n c → w.heap.size ≤ ad.block) ∧ Below w.heap.size w w'
theorem own_fresh {W : World} {B B0 : Nat} {v : Value} {n : Nat} {xs : List Value} (h : W.ownsRow B 9 1 v n xs) (hB : B0 ≤ B) : ∀ ad n c, v = .slice (some ad) n c → B0 ≤ ad.block := fun ad n c e => by
  rcases h.2 with ⟨rfl, _⟩ | ⟨g, cap, cur, rfl, hg, _⟩
  · cases e
  · simp only [Value.slice.injEq, Option.some.injEq] at e; rw [← e.1]; exact Nat.le_trans hB hg
set_option maxRecDepth 100000 in
set_option maxHeartbeats 8000000 in
theorem namesOf_any (mm : Option Nat) (B : List ByteArray) (x : It) (a4 a7 a8 a9 a10 a11 : Value) (N : Nat) (w : World) (hm : BMap w (.map mm) B) (h : IV N w a4 a7 a8 a9 a10 a11 x) (hN : N ≤ w.heap.size) (hnd : Nd1 x) :
    Calls Tryz.prog 37 #[iv x.kd x.e.op x.e.n x.e.nm a4 x.nm x.ix a7 a8 a9 a10 a11, .map mm] w (NamesP (ownN B x) w) := by
  have HS : Hid (∀ s ∈ exN B x.e, s.size ≤ 140737488351232) := Lib.hid (nmL_size (pre_names x.e _ 1 h.ex)); have HLn : Hid ((exN B x.e).length ≤ 10000) := Lib.hid (by have h1 := nmL_len B (pre 1 x.e); rw [pre_len] at h1; have := hnd.1; unfold exN nmL at *; omega); have NC : Hid (∀ W, Below w.heap.size w W → Calls Tryz.prog 67 #[xv x.e.op x.e.n x.e.nm a4, .map mm] W fun r w' => ∃ v', r = .returned v' ∧ w'.ownsRow W.heap.size 9 1 v' (exN B x.e).length ((exN B x.e).map Value.string) ∧ Below W.heap.size W w') := (Lib.hid fun W hW => namesIn_any mm B x.e _ W (hm.below hW) ((h.ex.under (hW.mono hN)).wide (by have := hW.size; omega)) hnd.1); have CC : Hid (∀ W g, Below w.heap.size w W → Blk W g [a10, a11] → Calls Tryz.prog 68 #[.slice (some ⟨g, 0, none⟩) 2 2] W fun e w' => ∃ v, e = .returned v ∧ w'.ownsRow W.heap.size 9 1 v (x.bf ++ x.af).length ((x.bf ++ x.af).map Value.string) ∧ Below W.heap.size W w') := Lib.hid fun W g hW hb =>
    concatS_any x.bf x.af a10 a11 g N W hb (h.bfs.under (hW.mono hN)) (h.afs.under (hW.mono hN)) (by have := hW.size; omega) (by have := hnd.2.2.1; have := hnd.2.2.2; omega)
  have HS2 : Hid (∀ s ∈ x.bf ++ x.af, s.size ≤ 140737488351232) := Lib.hid fun s hs => by
    obtain ⟨_, _, _, _, _, z1, _⟩ := h.bfs; obtain ⟨_, _, _, _, _, z2, _⟩ := h.afs; rcases List.mem_append.1 hs with hs | hs
    · exact z1 s hs
    · exact z2 s hs
  have HL2 : Hid ((x.bf ++ x.af).length ≤ 2000) := Lib.hid (by rw [List.length_append]; have := hnd.2.2.1; have := hnd.2.2.2; omega); have hnms := h.nm; have EO : Hid (ownN B x = if x.kd = 1 ∨ x.kd = 2 ∨ x.kd = 4 then exN B x.e else if x.kd = 3 ∨ x.kd = 5 then [x.nm] else if x.kd = 6 then x.bf ++ x.af else []) := Lib.hid rfl; obtain ⟨kd, o, n, en, p4, k4, c4, nm, ix, p7, k7, c7, p8, k8, c8, p9, k9, c9, p10, k10, c10, p11, k11, c11, ev, hv⟩ := h.open_; have ev2 := ev; simp only [Value.agg.injEq, Array.mk.injEq, List.cons.injEq] at ev2; obtain ⟨-, -, -, -, rfl, -, -, rfl, rfl, rfl, rfl, rfl, -⟩ := ev2; rw [ev]; rw [hv.e5] at hnms; have HNM := Lib.hid hv.e5; have EO2 := EO.out; rw [hv.e0, hv.e5] at EO2; have EO := Lib.hid EO2; have NC2 := NC.out; rw [hv.e1, hv.e2, hv.e3] at NC2; have NC := Lib.hid NC2; clear NC2 EO2; obtain ⟨cs, hcs⟩ : ∃ cs, cs = ics kd o n en (.slice p4 k4 c4) nm ix (.slice p7 k7 c7) (.slice p8 k8 c8) (.slice p9 k9 c9) (.slice p10 k10 c10) (.slice p11 k11 c11) := ⟨_, rfl⟩; have F0 := Blk.new w cs 55; have HB := Lib.hid (ba w (.cells cs.toArray 55)); subst hcs; have d0 := F0.c 0 _ rfl; have d1 := F0.c 1 _ rfl; have d2 := F0.c 2 _ rfl; have d3 := F0.c 3 _ rfl; have d4 := F0.c 4 _ rfl; have d5 := F0.c 5 _ rfl; have d6 := F0.c 6 _ rfl; have d7 := F0.c 7 _ rfl; have d8 := F0.c 8 _ rfl; have d9 := F0.c 9 _ rfl; have d10 := F0.c 10 _ rfl; have d11 := F0.c 11 _ rfl; have HF := Lib.hid F0; clear F0 hv h ev hm hN; by_cases hE : kd = 1 ∨ kd = 2 ∨ kd = 4
  · have E : Hid (ownN B x = exN B x.e) := Lib.hid (by rw [EO.out, if_pos hE]); rcases hE with rfl | rfl | rfl
    all_goals
      go_enter Tryz.func37, Tryz.ntmps37
      go_wp2_with (go_at_call 67; ((with_reducible refine (NC.out _ HB.out).mono ?_); rintro e w1 ⟨v', rfl, ho, hb⟩; have HO := Lib.hid ho; have HB1 := Lib.hid (HB.out.then_ hb); clear ho hb))
      go_ret; exact ⟨_, rfl, by rw [E.out]; exact own_StA HO.out (by have := HLn.out; omega) HS.out, own_fresh HO.out HB.out.size, HB1.out⟩
  · have q1 : (kd == 1) = false := (by rw [beq_eq_false_iff_ne]; omega); have q2 : (kd == 2) = false := (by rw [beq_eq_false_iff_ne]; omega); have q4 : (kd == 4) = false := (by rw [beq_eq_false_iff_ne]; omega); by_cases hN : kd = 3 ∨ kd = 5
    · have E : Hid (ownN B x = [nm]) := Lib.hid (by rw [EO.out, if_neg hE, if_pos hN]); clear hE; have FS : Hid (∀ (W : World) (g : Nat), g = W.heap.size → StA (W.alloc (.cells #[.string nm] 9)).heap.size (W.alloc (.cells #[.string nm] 9)) (.slice (some ⟨g, 0, none⟩) 1 1) [nm]) := Lib.hid fun W g hg => by
        subst hg; exact ⟨some ⟨W.heap.size, 0, none⟩, 1, rfl, by simp, Nat.le_refl _, fun s hs => by rw [List.mem_singleton] at hs; rw [hs]; exact hnms, fun _ => ⟨W.heap.size, 0, rfl, by simp, fun i s hi => by
        have hi0 : i = 0 := (by have := (List.getElem?_eq_some_iff.1 hi).1; simp at this; exact this); subst hi0; have : nm = s := (by simpa using hi); rw [← this]; exact (Blk.new W [.string nm] 9).c 0 _ rfl⟩⟩
      rcases hN with rfl | rfl
      all_goals
        go_enter Tryz.func37, Tryz.ntmps37
        go_wp2; go_ret; refine ⟨.slice (some ⟨w.heap.size + 1, 0, none⟩) 1 1, rfl, ?_, fun ad n c e => by (simp only [Value.slice.injEq, Option.some.injEq] at e; rw [← e.1]; exact Nat.le_succ _), HB.out.then_ (ba _ _)⟩; rw [E.out]; exact FS.out _ _ (by simp)
    · have q3 : (kd == 3) = false := (by rw [beq_eq_false_iff_ne]; omega); have q5 : (kd == 5) = false := (by rw [beq_eq_false_iff_ne]; omega); by_cases h6 : kd = 6
      · subst h6; have E : Hid (ownN B x = x.bf ++ x.af) := Lib.hid (by rw [EO.out]; rfl); clear hE hN q1 q2 q3 q4 q5; have bf := (Blk.new (w.alloc (.cells (ics 6 o n en (.slice p4 k4 c4) nm ix (.slice p7 k7 c7) (.slice p8 k8 c8) (.slice p9 k9 c9) (.slice p10 k10 c10) (.slice p11 k11 c11)).toArray 55)) [.slice p10 k10 c10, .slice p11 k11 c11] 27); rw [World.size_alloc] at bf; have BF := Lib.hid bf; clear bf
        go_enter Tryz.func37, Tryz.ntmps37
        go_wp2_with (go_at_call 68; ((with_reducible refine (CC.out _ _ (HB.out.then_ (ba _ _)) BF.out).mono ?_); rintro e w1 ⟨v', rfl, ho, hb⟩; have HO := Lib.hid ho; have HB1 := Lib.hid ((HB.out.then_ (ba _ _)).then_ hb); clear ho hb))
        go_ret; exact ⟨_, rfl, by rw [E.out]; exact own_StA HO.out (by have := HL2.out; omega) HS2.out, own_fresh HO.out (by have := (HB.out.then_ (ba _ (.cells #[.slice p10 k10 c10, .slice p11 k11 c11] 27))).size; exact this), HB1.out⟩
      · have E : Hid (ownN B x = []) := Lib.hid (by rw [EO.out, if_neg hE, if_neg hN, if_neg h6]); have q6 : (kd == 6) = false := (by rw [beq_eq_false_iff_ne]; exact h6); clear hE hN h6
        go_enter Tryz.func37, Tryz.ntmps37
        go_wp2; go_ret; exact ⟨_, rfl, by rw [E.out]; exact StA.nil _ _ _ _, fun ad n c e => by (have e2 : Value.slice none 0 0 = .slice (some ad) n c := e; cases e2), HB.out⟩
set_option maxRecDepth 100000 in
set_option maxHeartbeats 8000000 in
theorem checkEach_any (fb : Nat) (fs : List Fld) (mm : Option Nat) (B : List ByteArray) (x : It) (a4 a7 a8 a9 a10 a11 : Value) (N : Nat) (w : World) (hf : FsA w fb fs) (hm : BMap w (.map mm) B) (h : IV N w a4 a7 a8 a9 a10 a11 x) (hk : x.kd = 5) :
    Calls Tryz.prog 84 #[.map (some fb), iv x.kd x.e.op x.e.n x.e.nm a4 x.nm x.ix a7 a8 a9 a10 a11, .map mm] w (tInt (chkI fs B x) w) := by
  have EO : Hid (chkI fs B x = if arrE fs x.nm = 0 then (if ((szO fs x.ix).isSome || memB B x.ix) = true then 8 else 0) else arrE fs x.nm) := Lib.hid (by unfold chkI; rw [if_neg (by omega), if_neg (by omega), if_pos hk]); have AC : Hid (∀ W, Below w.heap.size w W → Calls Tryz.prog 98 #[.map (some fb), .string x.nm] W fun e w' => e = .returned (.int .i64 (arrE fs x.nm)) ∧ W = w') := (Lib.hid fun W hW => arrE_any fb fs x.nm W (hf.later hW) h.nm); have hl1 := (fun W hW => (hf.later (w' := W) hW).lookOk x.ix h.ix); have hl2 := (fun W hW => (hm.below (W' := W) hW).look x.ix h.ix); have hcz := cntB_pos B x.ix; obtain ⟨kd, o, n, en, p4, k4, c4, nm, ix, p7, k7, c7, p8, k8, c8, p9, k9, c9, p10, k10, c10, p11, k11, c11, ev, hv⟩ := h.open_; have ev2 := ev; simp only [Value.agg.injEq, Array.mk.injEq, List.cons.injEq] at ev2; obtain ⟨-, -, -, -, rfl, -, -, rfl, rfl, rfl, rfl, rfl, -⟩ := ev2; rw [ev]; rw [hv.e6] at hl1 hl2 hcz; have EO2 := EO.out; rw [hv.e6, hv.e5] at EO2; have AC2 := AC.out; rw [hv.e5] at AC2; have EO := Lib.hid EO2; have AC := Lib.hid AC2; clear EO2 AC2; obtain ⟨cs, hcs⟩ : ∃ cs, cs = ics kd o n en (.slice p4 k4 c4) nm ix (.slice p7 k7 c7) (.slice p8 k8 c8) (.slice p9 k9 c9) (.slice p10 k10 c10) (.slice p11 k11 c11) := ⟨_, rfl⟩; have F0 := Blk.new w cs 55; have HB := Lib.hid (ba w (.cells cs.toArray 55)); have hlk1 := hl1 _ HB.out; have hlk2 := hl2 _ HB.out; subst hcs; have d0 := F0.c 0 _ rfl; have d1 := F0.c 1 _ rfl; have d2 := F0.c 2 _ rfl; have d3 := F0.c 3 _ rfl; have d4 := F0.c 4 _ rfl; have d5 := F0.c 5 _ rfl; have d6 := F0.c 6 _ rfl; have d7 := F0.c 7 _ rfl; have d8 := F0.c 8 _ rfl; have d9 := F0.c 9 _ rfl; have d10 := F0.c 10 _ rfl; have d11 := F0.c 11 _ rfl; clear F0 hv h ev hm hf hl1 hl2; obtain ⟨z, hz⟩ : ∃ z, szI fs ix = z := ⟨_, rfl⟩; rw [hz] at hlk1; clear hz; generalize arrE fs nm = r at *
  generalize (szO fs ix).isSome = s at *
  by_cases hr : r = 0
  · subst hr; have EO2 : Hid (chkI fs B x = if (s || memB B ix) = true then 8 else 0) := Lib.hid (by rw [EO.out, if_pos rfl]); clear EO; obtain ⟨M, hM⟩ : ∃ M, memB B ix = M := ⟨_, rfl⟩; rw [hM] at EO2 hcz; clear hM; cases M
    · have hc0 : cntB B ix = 0 := hcz.2.2 rfl; rw [hc0] at hlk2; clear hcz hc0; cases s
      all_goals
        go_enter Tryz.func84, Tryz.ntmps84
        go_wp2_with (go_at_call 98; ((with_reducible refine (AC.out _ HB.out).mono ?_); rintro e w1 ⟨rfl, rfl⟩))
        go_ret; exact ExW.tInt_mk (by rw [EO2.out]; rfl) HB.out
    · have hc0 : 0 < cntB B ix := by
        have : cntB B ix ≠ 0 := (fun h => by have := hcz.2.1 h; cases this); have := hcz.1; omega
      clear hcz; cases s
      all_goals
        go_enter Tryz.func84, Tryz.ntmps84
        go_wp2_with (go_at_call 98; ((with_reducible refine (AC.out _ HB.out).mono ?_); rintro e w1 ⟨rfl, rfl⟩))
        go_ret; exact ExW.tInt_mk (by rw [EO2.out]; rfl) HB.out
  · have EO2 : Hid (r = chkI fs B x) := Lib.hid (by rw [EO.out, if_neg hr]); have q : (r != 0) = true := (by simpa using hr); clear EO hr hcz
    go_enter Tryz.func84, Tryz.ntmps84
    go_wp2_with (go_at_call 98; ((with_reducible refine (AC.out _ HB.out).mono ?_); rintro e w1 ⟨rfl, rfl⟩))
    go_ret; exact ExW.tInt_mk EO2.out HB.out
set_option maxRecDepth 100000 in
set_option maxHeartbeats 8000000 in
theorem check_any (fb : Nat) (fs : List Fld) (mm : Option Nat) (B : List ByteArray) (x : It) (a4 a7 a8 a9 a10 a11 : Value) (N : Nat) (w : World) (hf : FsA w fb fs) (hm : BMap w (.map mm) B) (h : IV N w a4 a7 a8 a9 a10 a11 x) (hN : N ≤ w.heap.size) (hnd : Nd1 x) (hfine : FineI x) :
    Calls Tryz.prog 44 #[.map (some fb), iv x.kd x.e.op x.e.n x.e.nm a4 x.nm x.ix a7 a8 a9 a10 a11, .map mm] w (tInt (chkI fs B x) w) := by
  have KK : x.kd = 3 ∨ x.kd = 6 ∨ x.kd = 5 ∨ (x.kd ≠ 3 ∧ x.kd ≠ 6 ∧ x.kd ≠ 5) := (by omega); have NC0 : ∀ W, Below w.heap.size w W → Calls Tryz.prog 37 #[iv x.kd x.e.op x.e.n x.e.nm a4 x.nm x.ix a7 a8 a9 a10 a11, .map mm] W (NamesP (ownN B x) W) := (fun W hW => namesOf_any mm B x _ _ _ _ _ _ N W (hm.below hW) (h.under (hW.mono hN)) (by have := hW.size; omega) hnd); have EC0 : x.kd = 5 → ∀ W, Below w.heap.size w W → Calls Tryz.prog 84 #[.map (some fb), iv x.kd x.e.op x.e.n x.e.nm a4 x.nm x.ix a7 a8 a9 a10 a11, .map mm] W (tInt (chkI fs B x) W) := (fun hk W hW => checkEach_any fb fs mm B x _ _ _ _ _ _ N W (hf.later hW) (hm.below hW) (h.under (hW.mono hN)) hk); have XC0 : x.kd ≠ 3 → x.kd ≠ 6 → x.kd ≠ 5 → ∀ W, Below w.heap.size w W → Calls Tryz.prog 56 #[.map (some fb), xv x.e.op x.e.n x.e.nm a4, .map mm] W (tInt (exE fs B x.e) W) := (fun n3 n6 n5 W hW => checkExpr_any fb fs (.map mm) B x.e _ W (hf.later hW) (hm.below hW) ⟨mm, rfl⟩ ((h.ex.under (hW.mono hN)).wide (by have := hW.size; omega)) hnd.1 ((ok_at x.e 1).1 ((vld_zero x.e).1 (hfine.dE n3 n6 n5)).1)); have UC0 : (∀ s ∈ ownN B x, varB s.data.toList = true) → ∀ W v, Below w.heap.size w W → StA W.heap.size W v (ownN B x) → Calls Tryz.prog 82 #[v, .func (.func 83) #[.map (some fb)] #[]] W (tBool ((ownN B x).any (unkB fs)) W) := fun hq W v hW hv =>
    unk_has (ownN B x) (unkB fs) v W.heap.size W hv (Nat.le_refl _) fb (fun s hs W' hW' hsz => unk_any fb fs s W' ((hf.later hW).later hW') hsz (hq s hs))
  have O3 : x.kd = 3 → ownN B x = [x.nm] := (fun hk => by unfold ownN; rw [if_neg (by omega), if_pos (.inl hk)]); have O6 : x.kd = 6 → ownN B x = x.bf ++ x.af := (fun hk => by unfold ownN; rw [if_neg (by omega), if_neg (by omega), if_pos hk]); have C36 : x.kd = 3 ∨ x.kd = 6 → (∀ s ∈ ownN B x, varB s.data.toList = true) ∧ chkI fs B x = if (ownN B x).any (unkB fs) = true then 7 else 0 := by
    rintro (hk | hk)
    · rw [O3 hk]; refine ⟨fun s hs => by rw [List.mem_singleton] at hs; rw [hs]; exact hfine.d3 hk, ?_⟩; unfold chkI; rw [if_pos hk]; simp
    · rw [O6 hk]; refine ⟨hfine.d6 hk, ?_⟩; unfold chkI; rw [if_neg (by omega), if_pos hk]
  have CX : x.kd ≠ 3 → x.kd ≠ 6 → x.kd ≠ 5 → chkI fs B x = exE fs B x.e := (fun n3 n6 n5 => by unfold chkI; rw [if_neg n3, if_neg n6, if_neg n5]); obtain ⟨kd, o, n, en, p4, k4, c4, nm, ix, p7, k7, c7, p8, k8, c8, p9, k9, c9, p10, k10, c10, p11, k11, c11, ev, hv⟩ := h.open_; have ev2 := ev; simp only [Value.agg.injEq, Array.mk.injEq, List.cons.injEq] at ev2; obtain ⟨-, -, -, -, rfl, -, -, rfl, rfl, rfl, rfl, rfl, -⟩ := ev2; rw [ev] at NC0 EC0 ⊢; rw [hv.e0] at KK EC0 XC0 C36 CX; rw [hv.e1, hv.e2, hv.e3] at XC0; obtain ⟨cs, hcs⟩ : ∃ cs, cs = ics kd o n en (.slice p4 k4 c4) nm ix (.slice p7 k7 c7) (.slice p8 k8 c8) (.slice p9 k9 c9) (.slice p10 k10 c10) (.slice p11 k11 c11) := ⟨_, rfl⟩; have F0 := Blk.new w cs 55; have HB := Lib.hid (ba w (.cells cs.toArray 55)); subst hcs; have d0 := F0.c 0 _ rfl; have d1 := F0.c 1 _ rfl; have d2 := F0.c 2 _ rfl; have d3 := F0.c 3 _ rfl; have d4 := F0.c 4 _ rfl; have d5 := F0.c 5 _ rfl; have d6 := F0.c 6 _ rfl; have d7 := F0.c 7 _ rfl; have d8 := F0.c 8 _ rfl; have d9 := F0.c 9 _ rfl; have d10 := F0.c 10 _ rfl; have d11 := F0.c 11 _ rfl; clear F0 hv h ev hm hf hN hnd hfine O3 O6; rcases KK with rfl | rfl | rfl | ⟨n3, n6, n5⟩
  · obtain ⟨c1, c2⟩ := C36 (.inl rfl); have UC := Lib.hid (UC0 c1); have NC := Lib.hid NC0; have E := Lib.hid c2; clear c1 c2 C36 UC0 NC0 EC0 XC0 CX; generalize (ownN B x).any (unkB fs) = u at *
    cases u
    all_goals
      go_enter Tryz.func44, Tryz.ntmps44
      go_wp2_with (first
        | (go_at_call 37; ((with_reducible refine (NC.out _ HB.out).mono ?_); rintro e w1 ⟨v', rfl, hst, _, hb⟩; have HST := Lib.hid hst; have HB1 := Lib.hid (HB.out.then_ hb); clear hst hb))
        | (go_at_call 82; ((with_reducible refine (UC.out _ _ HB1.out HST.out).mono ?_); rintro e w2 ⟨rfl, hb⟩; have HB2 := Lib.hid (HB1.out.then_ hb); clear hb)))
      go_ret; exact ExW.tInt_mk (by rw [E.out]; rfl) HB2.out
  · obtain ⟨c1, c2⟩ := C36 (.inr rfl); have UC := Lib.hid (UC0 c1); have NC := Lib.hid NC0; have E := Lib.hid c2; clear c1 c2 C36 UC0 NC0 EC0 XC0 CX; generalize (ownN B x).any (unkB fs) = u at *
    cases u
    all_goals
      go_enter Tryz.func44, Tryz.ntmps44
      go_wp2_with (first
        | (go_at_call 37; ((with_reducible refine (NC.out _ HB.out).mono ?_); rintro e w1 ⟨v', rfl, hst, _, hb⟩; have HST := Lib.hid hst; have HB1 := Lib.hid (HB.out.then_ hb); clear hst hb))
        | (go_at_call 82; ((with_reducible refine (UC.out _ _ HB1.out HST.out).mono ?_); rintro e w2 ⟨rfl, hb⟩; have HB2 := Lib.hid (HB1.out.then_ hb); clear hb)))
      go_ret; exact ExW.tInt_mk (by rw [E.out]; rfl) HB2.out
  · have EC := Lib.hid (EC0 rfl); clear C36 UC0 NC0 EC0 XC0 CX
    go_enter Tryz.func44, Tryz.ntmps44
    go_wp2_with (go_at_call 84; ((with_reducible refine (EC.out _ HB.out).mono ?_); rintro e w1 ⟨rfl, hb⟩; have HB1 := Lib.hid (HB.out.then_ hb); clear hb))
    go_ret; exact ⟨rfl, HB1.out⟩
  · have XC := Lib.hid (XC0 n3 n6 n5); have E := Lib.hid (CX n3 n6 n5); have f3 : (kd == 3) = false := (by rw [beq_eq_false_iff_ne]; exact n3); have f6 : (kd == 6) = false := (by rw [beq_eq_false_iff_ne]; exact n6); have f5 : (kd == 5) = false := (by rw [beq_eq_false_iff_ne]; exact n5); clear C36 UC0 NC0 EC0 XC0 CX n3 n6 n5
    go_enter Tryz.func44, Tryz.ntmps44
    go_wp2_with (go_at_call 56; ((with_reducible refine (XC.out _ HB.out).mono ?_); rintro e w1 ⟨rfl, hb⟩; have HB1 := Lib.hid (HB.out.then_ hb); clear hb))
    go_ret; exact ExW.tInt_mk E.out.symm HB1.out
end Go.Proofs.YtpejflgdehioaaaGreatDoor.ItW
namespace Go.Proofs.YtpejflgdehioaaaGreatDoor.ItW
open Go Go.RowKit Go.Shelf Go.Proofs.YtpejflgdehioaaaGreatDoor.NumM Go.Proofs.YtpejflgdehioaaaGreatDoor.LexW Go.Proofs.YtpejflgdehioaaaGreatDoor.LexM Go.Proofs.YtpejflgdehioaaaGreatDoor.ExM Go.Proofs.YtpejflgdehioaaaGreatDoor.ExW Go.Proofs.YtpejflgdehioaaaGreatDoor.ItM
open Go.Proofs.YtpejflgdehioaaaGreatDoor.ClM (Fld)
theorem elm_sz (a : ByteArray) (k : Nat) (ha : a.size ≤ 100) : (elmN a k).size ≤ 103 := by
  have h : (elmN a k).size = a.size + 3 := by
    show ((a.data.toList ++ [91, UInt8.ofNat (48 + k), 93]).toArray).size = a.size + 3; simp
  omega
set_option maxRecDepth 100000 in
set_option maxHeartbeats 4000000 in
theorem variable_any (a : ByteArray) (k : Nat) (hk : k < 10) (ha : a.size ≤ 100) (w : World) :
    Calls Tryz.prog 150 #[.string a, .int .i64 k] w fun e w' => e = .returned (xv 2 0 (elmN a k) (.slice none 0 0)) ∧ Below w.heap.size w w' := by
  have IC := (fun W => Tryz.strconv_Itoa_small k (by omega) W); rw [Lib.decDigits_one hk] at IC; have HC := Lib.hid (elm_cat a ⟨#[UInt8.ofNat (48 + k)]⟩ k rfl); have IC := Lib.hid IC; obtain ⟨d, hd⟩ : ∃ d : ByteArray, (⟨#[UInt8.ofNat (48 + k)]⟩ : ByteArray) = d := ⟨_, rfl⟩; have hds : d.size = 1 := (by rw [← hd]; rfl); rw [hd] at HC; have hd' : (⟨[UInt8.ofNat (48 + k)].toArray⟩ : ByteArray) = d := hd; rw [hd'] at IC; have hds2 : d.size ≤ 1 := (by omega); clear hd hd' hds; obtain ⟨x, hx⟩ : ∃ x, elmN a k = x := ⟨_, rfl⟩; rw [hx] at HC ⊢; clear hx
  go_enter Tryz.func150, Tryz.ntmps150
  go_wp2_with (first
    | (go_at_call 176; ((with_reducible refine (IC.out _).mono ?_); rintro e w1 ⟨rfl, hw⟩; subst hw)))
  rw [HC.out]; refine bodyPost_ret (v := xv 2 0 x (.slice none 0 0)) (by simp [results, Tryz.results150, go_sem]) rfl ?_; exact ⟨rfl, by repeat' (first | exact Below.refl _ _ | (refine Below.alloc ?_ (by simp) _) | (refine Below.setCell (p := ⟨_, _, _⟩) ?_ (by simp) _))⟩
theorem szI_bound (fs : List Fld) (hS : ∀ f ∈ fs, 0 ≤ f.sz ∧ f.sz ≤ 8) (s : ByteArray) : 0 ≤ szI fs s ∧ szI fs s ≤ 8 := cntL_bound fs hS s
theorem length_any (fb : Nat) (fs : List Fld) (hS : ∀ f ∈ fs, 0 ≤ f.sz ∧ f.sz ≤ 8) (s : ByteArray) (w : World) (hf : FsA w fb fs) (hs : s.size ≤ 140737488351232) :
    Calls Tryz.prog 152 #[.map (some fb), .string s] w fun e w' => e = .returned (.int .i64 (szI fs s)) ∧ w = w' := by
  have hlk := hf.look s hs; have hb := szI_bound fs hS s; clear hf hs hS; generalize szI fs s = z at *
  have hmin : min z 9 = z := by omega
  go_enter Tryz.func152, Tryz.ntmps152
  go_wp2; go_ret; exact ⟨rfl, rfl⟩
theorem elV_fr (lo : Nat) (w : World) (a : ByteArray) (k : Nat) (ha : a.size ≤ 100) : Fr lo w (xv 2 0 (elmN a k) (.slice none 0 0)) (elV a k) :=
  fr_nil (by have := elm_sz a k ha; omega)
def BoxE (b : Nat) (e : Ex) (W : World) : Prop := ∃ p c, Four W b (.int .i64 e.op) (.int .i64 e.n) (.string e.nm) (.slice p e.args.length c) ∧ Fr (b + 1) W (xv e.op e.n e.nm (.slice p e.args.length c)) e
theorem BoxE.push {b : Nat} {T : Ex} {w5 : World} {p5 : Option Addr} {c5 : Nat} {N : ByteArray} (hf : Four w5 b (.int .i64 T.op) (.int .i64 T.n) (.string T.nm) (.slice p5 T.args.length c5)) (hx : Fr (b + 1) w5 (xv T.op T.n T.nm (.slice p5 T.args.length c5)) T) (hu : ∀ lo W, Fr lo W (xv 2 0 N (.slice none 0 0)) (.mk 2 0 N [])) (op : Int) :
    BoxE b (.mk op 0 ⟨#[]⟩ [T, .mk 2 0 N []]) (((((w5.setCell ⟨b, 0, none⟩ (.int .i64 op)).setCell ⟨b, 1, none⟩ (.int .i64 0)).setCell ⟨b, 2, none⟩ (.string ⟨#[]⟩)).setCell ⟨b, 3, none⟩ (.slice (some ⟨w5.heap.size, 0, none⟩) 2 2)).alloc (.cells #[.int .i64 T.op, .int .i64 T.n, .string T.nm, .slice p5 T.args.length c5, .int .i64 2, .int .i64 0, .string N, .slice none 0 0] 43)) := by
  have hlt := hf.lt; have h4 := hf.put (.int .i64 op) (.int .i64 0) (.string ⟨#[]⟩) (.slice (some ⟨w5.heap.size, 0, none⟩) 2 2); have hx4 := fr_put4 (g := b) hx (.int .i64 op) (.int .i64 0) (.string ⟨#[]⟩) (.slice (some ⟨w5.heap.size, 0, none⟩) 2 2); have hz : ((((w5.setCell ⟨b, 0, none⟩ (.int .i64 op)).setCell ⟨b, 1, none⟩ (.int .i64 0)).setCell ⟨b, 2, none⟩ (.string ⟨#[]⟩)).setCell ⟨b, 3, none⟩ (.slice (some ⟨w5.heap.size, 0, none⟩) 2 2)).heap.size = w5.heap.size := (by simp only [setCell_size]); obtain ⟨V, hV⟩ : ∃ V, ((((w5.setCell ⟨b, 0, none⟩ (.int .i64 op)).setCell ⟨b, 1, none⟩ (.int .i64 0)).setCell ⟨b, 2, none⟩ (.string ⟨#[]⟩)).setCell ⟨b, 3, none⟩ (.slice (some ⟨w5.heap.size, 0, none⟩) 2 2)) = V := ⟨_, rfl⟩; rw [hV] at h4 hx4 hz ⊢; have hb8 := ba V (.cells #[.int .i64 T.op, .int .i64 T.n, .string T.nm, .slice p5 T.args.length c5, .int .i64 2, .int .i64 0, .string N, .slice none 0 0] 43); have B8 := Blk.at_ hz [.int .i64 T.op, .int .i64 T.n, .string T.nm, .slice p5 T.args.length c5, .int .i64 2, .int .i64 0, .string N, .slice none 0 0] 43; refine ⟨some ⟨w5.heap.size, 0, none⟩, 2, h4.stay hb8, ?_⟩; exact two_args (T := fun k => b + 1 ≤ k ∧ k < _) (e := .mk 2 0 N []) ⟨by omega, B8.lt⟩ B8 (hx4.later hb8) (hu _ _)
theorem sumE_step (a : ByteArray) (k : Nat) (hk : 1 ≤ k) : sumE a k = .mk 7 0 ⟨#[]⟩ [sumE a (k - 1), elV a k] := by
  obtain ⟨m, rfl⟩ : ∃ m, k = m + 1 := ⟨k - 1, by omega⟩; rfl
set_option maxRecDepth 100000 in
set_option maxHeartbeats 16000000 in
theorem sumE_any (fb : Nat) (fs : List Fld) (hS : ∀ f ∈ fs, 0 ≤ f.sz ∧ f.sz ≤ 8) (a : ByteArray) (ha : a.size ≤ 100) (w : World) (hf : FsA w fb fs) (h1 : 1 ≤ szI fs a) :
    Calls Tryz.prog 101 #[.map (some fb), .string a] w (tFr (sumE a ((szI fs a).toNat - 1)) w) := by
  have h8 := szI_bound fs hS a; have HLN : Hid (∀ W, Below w.heap.size w W → Calls Tryz.prog 152 #[.map (some fb), .string a] W fun e w' => e = .returned (.int .i64 (szI fs a)) ∧ W = w') := (Lib.hid fun W hW => length_any fb fs hS a W (hf.later hW) (by omega)); have VC : Hid (∀ (k : Nat) W, k < 10 → Calls Tryz.prog 150 #[.string a, .int .i64 k] W fun e w' => e = .returned (xv 2 0 (elmN a k) (.slice none 0 0)) ∧ Below W.heap.size W w') := (Lib.hid fun k W hk => variable_any a k hk ha W); obtain ⟨n, hn⟩ : ∃ n : Nat, szI fs a = n := ⟨(szI fs a).toNat, by omega⟩; rw [hn] at HLN h8 h1 ⊢; rw [show ((n : Int)).toNat - 1 = n - 1 by omega]; have HA := Lib.hid ha; have hn1 : 1 ≤ n := (by omega); have hn8 : n ≤ 8 := (by omega); have V0 : Hid (∀ W, Calls Tryz.prog 150 #[.string a, .int .i64 0] W fun e w' => e = .returned (xv 2 0 (elmN a 0) (.slice none 0 0)) ∧ Below W.heap.size W w') := (Lib.hid fun W => VC.out 0 W (by omega)); have hbR := ba w (.cells #[.int .i64 0, .int .i64 0, .string ⟨#[]⟩, .slice none 0 0] 43); have FR := Four.new w (.int .i64 0) (.int .i64 0) (.string ⟨#[]⟩) (.slice none 0 0) 43; have HBR := Lib.hid hbR; have HFR := Lib.hid FR; clear hbR FR hf hn h8 h1 hS
  go_enter Tryz.func101, Tryz.ntmps101
  go_wp2_with (first
    | (go_at_call 150; ((with_reducible refine (V0.out _).mono ?_); rintro e w2 ⟨rfl, hb⟩; have HB2 := Lib.hid (HBR.out.then_ hb); have HF2 := Lib.hid (HFR.out.stay hb); clear hb)))
  have hbT := ba w2 (.cells #[.int .i64 2, .int .i64 0, .string (elmN a 0), .slice none 0 0] 43); have FT := Four.new w2 (.int .i64 2) (.int .i64 0) (.string (elmN a 0)) (.slice none 0 0) 43; have h2z := HB2.out.size; have hzT := World.size_alloc w2 (.cells #[.int .i64 2, .int .i64 0, .string (elmN a 0), .slice none 0 0] 43); have HFT := Lib.hid (HF2.out.stay hbT); have HBT := Lib.hid (HB2.out.then_ hbT); obtain ⟨wt, hwt⟩ : ∃ wt, w2.alloc (.cells #[.int .i64 2, .int .i64 0, .string (elmN a 0), .slice none 0 0] 43) = wt := ⟨_, rfl⟩; rw [hwt] at hbT FT HFT HBT hzT ⊢; have BT : Hid (BoxE w2.heap.size (sumE a (1 - 1)) wt) := Lib.hid ⟨none, 0, FT, elV_fr _ _ a 0 HA.out⟩; have h2r := HFR.out.lt; rw [World.size_alloc] at h2r; have hgr : w.heap.size < w2.heap.size := HF2.out.lt; clear hwt hbT FT HB2 HF2 HBR HFR h2r; go_loopw [6] (fun i wr => ∃ k : Nat, 1 ≤ k ∧ k ≤ n ∧ i = .int .i64 k ∧ Hid (BoxE w2.heap.size (sumE a (k - 1)) wr) ∧ Hid (Four wr w.heap.size (.int .i64 0) (.int .i64 0) (.string ⟨#[]⟩) (.slice none 0 0)) ∧ Hid (Below w.heap.size w wr)) (fun i _ => n - (intOf i).toNat)
  case atStart => exact ⟨1, Nat.le_refl _, hn1, rfl, BT, HFT, HBT⟩
  case round =>
    obtain ⟨k, hk1, hkn, rfl, BX, FX, BW⟩ := hrel; have LC := Lib.hid (HLN.out _ BW.out); obtain ⟨p5, c5, f5, x5⟩ := BX.out; have m0 := f5.c0; have m1 := f5.c1; have m2 := f5.c2; have m3 := f5.c3; by_cases hlt : k < n
    · have VK := Lib.hid (fun W => VC.out k W (by omega)); have ST := Lib.hid (sumE_step a k hk1); have HF5 := Lib.hid f5; have HX5 := Lib.hid x5; have EV := Lib.hid (fun lo W => elV_fr lo W a k HA.out); have hEVd : elV a k = .mk 2 0 (elmN a k) [] := rfl; rw [hEVd] at ST EV; clear f5 x5 BX hEVd; generalize sumE a (k - 1) = T at *
      generalize elmN a k = N at *
      go_wp2_with (first
        | (go_at_call 152; ((with_reducible refine LC.out.mono ?_); rintro e w4 ⟨rfl, rfl⟩)))
      go_region_with (go_at_call 150; refine (VK.out _).mono ?_; rintro e w5 ⟨rfl, hb⟩; have HB5 : Hid (Below wr.heap.size wr w5) := Lib.hid (by first | exact hb | exact (Below.refl _ _).drew.trans hb); have f5 := HF5.out.stay HB5.out; have hl5 := f5.lt; have e0 := f5.c0; have e1 := f5.c1; have e2 := f5.c2; have e3 := f5.c3; have z0 := f5.f0; have z1 := f5.f1; have z2 := f5.f2; have z3 := f5.f3; have G5 := Lib.hid f5; clear hb f5)
      all_goals
        have hz5 := HB5.out.size; go_wp2; go_roundw
        case rel => exact ⟨k + 1, by omega, by omega, by go_num, Lib.hid (by rw [show k + 1 - 1 = k by omega, ST.out]; exact BoxE.push G5.out (HX5.out.later HB5.out) EV.out 7), Lib.hid (((((FX.out.stay HB5.out).far (by omega)).far (by omega)).far (by omega)).far (by omega) |>.stay (ba _ _)), Lib.hid ((below_put (BW.out.then_ HB5.out) (by omega) _ _ _ _).then_ (ba _ _))⟩
        case measure => simp [intOf]; omega
    · have hkn2 : k = n := (by omega); have HX5 := Lib.hid x5; have r0 := FX.out.c0; have r1 := FX.out.c1; have r2 := FX.out.c2; have r3 := FX.out.c3; have s0 := FX.out.f0; have s1 := FX.out.f1; have s2 := FX.out.f2; have s3 := FX.out.f3; have HFN : Hid (sumE a (k - 1) = sumE a (n - 1)) := Lib.hid (by rw [hkn2]); clear f5 x5 BX hkn2; generalize sumE a (k - 1) = T at *
      go_wp2_with (first
        | (go_at_call 152; ((with_reducible refine LC.out.mono ?_); rintro e w4 ⟨rfl, rfl⟩)))
      have hp := FX.out.put (.int .i64 T.op) (.int .i64 T.n) (.string T.nm) (.slice p5 T.args.length c5); have p0 := hp.c0; have p1 := hp.c1; have p2 := hp.c2; have p3 := hp.c3; refine bodyPost_ret (v := xv T.op T.n T.nm (.slice p5 T.args.length c5)) (by simp [results, Tryz.results101, go_sem, p0, p1, p2, p3]) rfl ?_; rw [← HFN.out]; exact ⟨_, rfl, (((((HX5.out.low (lo' := w.heap.size + 1) (by omega)).set (by omega)).set (by omega)).set (by omega)).set (by omega)).low (by omega), below_put BW.out (Nat.le_refl _) _ _ _ _⟩
theorem three_args {T : Nat → Prop} {W : World} {g : Nat} {op : Int} {x y z : Ex} {p1 p2 p3 : Option Addr} {c1 c2 c3 : Nat} (hT : T g)
    (hB : Blk W g [.int .i64 x.op, .int .i64 x.n, .string x.nm, .slice p1 x.args.length c1, .int .i64 y.op, .int .i64 y.n, .string y.nm, .slice p2 y.args.length c2, .int .i64 z.op, .int .i64 z.n, .string z.nm, .slice p3 z.args.length c3])
    (h1 : ExS T W (xv x.op x.n x.nm (.slice p1 x.args.length c1)) x) (h2 : ExS T W (xv y.op y.n y.nm (.slice p2 y.args.length c2)) y) (h3 : ExS T W (xv z.op z.n z.nm (.slice p3 z.args.length c3)) z) :
    ExS T W (xv op 0 ⟨#[]⟩ (.slice (some ⟨g, 0, none⟩) 3 3)) (.mk op 0 ⟨#[]⟩ [x, y, z]) := by
  refine ExS.mk (ks := [x, y, z]) (fun i => if i = 0 then p1 else if i = 1 then p2 else p3) (fun i => if i = 0 then c1 else if i = 1 then c2 else c3) (by decide) (by simp) (by simp) (fun _ => ⟨g, 0, rfl, hT, fun i a ha => ?_⟩) (fun i a ha => ?_)
  · rcases i with _ | _ | _ | i
    · obtain rfl : x = a := (by simpa using ha); exact ⟨hB.c 0 _ rfl, hB.c 1 _ rfl, hB.c 2 _ rfl, hB.c 3 _ rfl⟩
    · obtain rfl : y = a := (by simpa using ha); exact ⟨hB.c 4 _ rfl, hB.c 5 _ rfl, hB.c 6 _ rfl, hB.c 7 _ rfl⟩
    · obtain rfl : z = a := (by simpa using ha); exact ⟨hB.c 8 _ rfl, hB.c 9 _ rfl, hB.c 10 _ rfl, hB.c 11 _ rfl⟩
    · simp at ha
  · rcases i with _ | _ | _ | i
    · obtain rfl : x = a := (by simpa using ha); exact h1
    · obtain rfl : y = a := (by simpa using ha); exact h2
    · obtain rfl : z = a := (by simpa using ha); exact h3
    · simp at ha
theorem cst_fr (lo : Nat) (w : World) (k : Int) : Fr lo w (xv 1 k ⟨#[]⟩ (.slice none 0 0)) (cst k) := fr_nil (by decide)
structure RC (w : World) (b9 : Nat) (c6 c9 : List Value) (V : World) : Prop where
  h6 : Blk V w.heap.size c6
  rm : Room4 V (w.heap.size + 1)
  h9 : Blk V b9 c9
  n9 : w.heap.size + 2 ≤ b9
  lo : Below w.heap.size w V
theorem RC.stay {w V V' : World} {b9 : Nat} {c6 c9 : List Value} (h : RC w b9 c6 c9 V) (hb : Below V.heap.size V V') : RC w b9 c6 c9 V' :=
  ⟨h.h6.stay hb, h.rm.stay hb, h.h9.stay hb, h.n9, h.lo.trans (hb.mono h.lo.size)⟩
theorem RC.put {w V : World} {b9 i : Nat} {x : Value} {c6 c9 : List Value} (h : RC w b9 c6 c9 V) : RC w b9 c6 c9 (V.setCell ⟨w.heap.size + 1, i, none⟩ x) :=
  ⟨h.h6.far (by omega), h.rm.put, h.h9.far (by have := h.n9; omega), h.n9, h.lo.setCell (p := ⟨w.heap.size + 1, i, none⟩) (by show w.heap.size ≤ w.heap.size + 1; omega) _⟩
abbrev SC (w : World) (b9 b6 : Nat) (o n : Int) (s : ByteArray) (x : Value) (V : World) : Prop :=
  V.cell? ⟨w.heap.size, 0, none⟩ = some (.int .i64 o) ∧ V.cell? ⟨w.heap.size, 1, none⟩ = some (.int .i64 n) ∧ V.cell? ⟨w.heap.size, 2, none⟩ = some (.string s) ∧ V.cell? ⟨w.heap.size, 3, none⟩ = some x ∧
    V.cell? ⟨b9, 0, none⟩ = some (.int .i64 15) ∧ V.cell? ⟨b9, 1, none⟩ = some (.int .i64 0) ∧ V.cell? ⟨b9, 2, none⟩ = some (.string ⟨#[]⟩) ∧ V.cell? ⟨b9, 3, none⟩ = some (.slice (some ⟨b6, 0, none⟩) 2 2) ∧
    RC w b9 [.int .i64 o, .int .i64 n, .string s, x] [.int .i64 15, .int .i64 0, .string ⟨#[]⟩, .slice (some ⟨b6, 0, none⟩) 2 2] V
theorem SC.r {w : World} {b9 b6 : Nat} {o n : Int} {s : ByteArray} {x : Value} {V : World} (h : SC w b9 b6 o n s x V) : RC w b9 [.int .i64 o, .int .i64 n, .string s, x] [.int .i64 15, .int .i64 0, .string ⟨#[]⟩, .slice (some ⟨b6, 0, none⟩) 2 2] V := h.2.2.2.2.2.2.2.2
theorem SC.of {w : World} {b9 b6 : Nat} {o n : Int} {s : ByteArray} {x : Value} {V : World} (h : RC w b9 [.int .i64 o, .int .i64 n, .string s, x] [.int .i64 15, .int .i64 0, .string ⟨#[]⟩, .slice (some ⟨b6, 0, none⟩) 2 2] V) : SC w b9 b6 o n s x V :=
  ⟨h.h6.c 0 _ rfl, h.h6.c 1 _ rfl, h.h6.c 2 _ rfl, h.h6.c 3 _ rfl, h.h9.c 0 _ rfl, h.h9.c 1 _ rfl, h.h9.c 2 _ rfl, h.h9.c 3 _ rfl, h⟩
set_option maxRecDepth 100000 in
set_option maxHeartbeats 16000000 in
theorem choice_any (fb : Nat) (fs : List Fld) (hS : ∀ f ∈ fs, 0 ≤ f.sz ∧ f.sz ≤ 8) (a : ByteArray) (ha : a.size ≤ 100) (n : Nat) (hn : szI fs a = n) (i : Ex) (hsz : sz i ≤ 10000) (N : Nat) : ∀ (m k : Nat) (vi : Value) (w : World), k + m = n → FsA w fb fs → ExAt N w vi i → N ≤ w.heap.size →
    Calls Tryz.prog 151 #[.map (some fb), .string a, vi, .int .i64 k] w (tFr (choE a i k m) w) := by
  have h8 := szI_bound fs hS a; rw [hn] at h8; have hn8 : n ≤ 8 := (by omega); have LEN : Hid (∀ W, FsA W fb fs → Calls Tryz.prog 152 #[.map (some fb), .string a] W fun e w' => e = .returned (.int .i64 n) ∧ W = w') := (Lib.hid fun W hW => hn ▸ length_any fb fs hS a W hW (by omega)); have HA := Lib.hid ha; clear h8 hn; intro m; induction m with
  | zero =>
    intro k vi w hk hf hx hN; obtain ⟨p, cap, pl, cl, rfl, hs, _⟩ := hx.form; obtain rfl : k = n := (by omega); have F0 := Four.new w (.int .i64 i.op) (.int .i64 i.n) (.string i.nm) (.slice p i.args.length cap) 43; have hb1 := ba w (.cells #[.int .i64 i.op, .int .i64 i.n, .string i.nm, .slice p i.args.length cap] 43); have hb2 := hb1.then_ (ba _ (.cells #[.int .i64 0, .int .i64 0, .string ⟨#[]⟩, .slice none 0 0] 43)); have F1 := Four.new (w.alloc (.cells #[.int .i64 i.op, .int .i64 i.n, .string i.nm, .slice p i.args.length cap] 43)) (.int .i64 0) (.int .i64 0) (.string ⟨#[]⟩) (.slice none 0 0) 43; rw [World.size_alloc] at F1; obtain ⟨W0, hW0⟩ : ∃ W0, (w.alloc (.cells #[.int .i64 i.op, .int .i64 i.n, .string i.nm, .slice p i.args.length cap] 43)).alloc (.cells #[.int .i64 0, .int .i64 0, .string ⟨#[]⟩, .slice none 0 0] 43) = W0 := ⟨_, rfl⟩; have LC := Lib.hid (LEN.out W0 (by rw [← hW0]; exact hf.later hb2)); have KC := Lib.hid (constant_any 0 W0); rw [hW0] at F1 hb2; have HB2 := Lib.hid hb2; have HF1 := Lib.hid F1; clear F0 hb1 hb2 F1 hf hx hs
    go_enter Tryz.func151, Tryz.ntmps151
    go_wp2_with fail
    clear hW0; go_wp2_with (first
      | (go_at_call 152; ((with_reducible refine LC.out.mono ?_); rintro e w4 ⟨rfl, rfl⟩))
      | (go_at_call 135; ((with_reducible refine KC.out.mono ?_); rintro e w5 ⟨rfl, hb⟩; have f5 := HF1.out.stay hb; have e0 := f5.c0; have e1 := f5.c1; have e2 := f5.c2; have e3 := f5.c3; have z0 := f5.f0; have z1 := f5.f1; have z2 := f5.f2; have z3 := f5.f3; have G5 := Lib.hid f5; have HB5 := Lib.hid (HB2.out.then_ hb); clear hb f5)))
    have hp := G5.out.put (.int .i64 1) (.int .i64 0) (.string ⟨#[]⟩) (.slice none 0 0); have p0 := hp.c0; have p1 := hp.c1; have p2 := hp.c2; have p3 := hp.c3; refine bodyPost_ret (v := xv 1 0 ⟨#[]⟩ (.slice none 0 0)) (by simp [results, Tryz.results151, go_sem, p0, p1, p2, p3]) rfl ?_; exact ⟨_, rfl, cst_fr _ _ 0, below_put HB5.out (by omega) _ _ _ _⟩
  | succ m ih =>
    intro k vi w hk hf hx hN; obtain ⟨p, cap, pl, cl, rfl, hs, _⟩ := hx.form; have hkn : ((k : Int) == (n : Int)) = false := (by rw [beq_eq_false_iff_ne]; omega); have hk8 : k ≤ 8 := (by omega); have hwr : IntKind.i64.wrap ((k : Int) + 1) = (k : Int) + 1 := IntWalk.i64_in _ (by omega); have F0 := Four.new w (.int .i64 i.op) (.int .i64 i.n) (.string i.nm) (.slice p i.args.length cap) 43; have B0 := Blk.new w [.int .i64 i.op, .int .i64 i.n, .string i.nm, .slice p i.args.length cap] 43; have hb1 := ba w (.cells #[.int .i64 i.op, .int .i64 i.n, .string i.nm, .slice p i.args.length cap] 43); have hbz := ba (w.alloc (.cells #[.int .i64 i.op, .int .i64 i.n, .string i.nm, .slice p i.args.length cap] 43)) (.cells #[.int .i64 0, .int .i64 0, .string ⟨#[]⟩, .slice none 0 0] 43); have hb2 := hb1.then_ hbz; have B1 := Blk.new (w.alloc (.cells #[.int .i64 i.op, .int .i64 i.n, .string i.nm, .slice p i.args.length cap] 43)) [.int .i64 0, .int .i64 0, .string ⟨#[]⟩, .slice none 0 0] 43; have hsz2 : ((w.alloc (.cells #[.int .i64 i.op, .int .i64 i.n, .string i.nm, .slice p i.args.length cap] 43)).alloc (.cells #[.int .i64 0, .int .i64 0, .string ⟨#[]⟩, .slice none 0 0] 43)).heap.size = w.heap.size + 1 + 1 := (by rw [World.size_alloc, World.size_alloc]); rw [World.size_alloc] at B1; have B0 := B0.stay hbz; obtain ⟨W0, hW0⟩ : ∃ W0, (w.alloc (.cells #[.int .i64 i.op, .int .i64 i.n, .string i.nm, .slice p i.args.length cap] 43)).alloc (.cells #[.int .i64 0, .int .i64 0, .string ⟨#[]⟩, .slice none 0 0] 43) = W0 := ⟨_, rfl⟩; have LC := Lib.hid (LEN.out W0 (by rw [← hW0]; exact hf.later hb2)); simp only [List.toArray] at B0 B1; rw [hW0] at B0 B1 hb2 hsz2; have hxi : ∀ V, Below w.heap.size w V → ExAt N V (xv i.op i.n i.nm (.slice p i.args.length cap)) i := (fun V hV => hx.under (hV.mono hN)); have HXI := Lib.hid hxi; have CL := Lib.hid (cloneI_any i N W0 _ (hxi W0 hb2) (by omega) hsz); have KC : Hid (∀ W, Calls Tryz.prog 135 #[.int .i64 k] W fun e w' => e = .returned (xv 1 k ⟨#[]⟩ (.slice none 0 0)) ∧ Below W.heap.size W w') := (Lib.hid fun W => constant_any k W); have VC : Hid (∀ W, Calls Tryz.prog 150 #[.string a, .int .i64 k] W fun e w' => e = .returned (xv 2 0 (elmN a k) (.slice none 0 0)) ∧ Below W.heap.size W w') := (Lib.hid fun W => variable_any a k (by omega) HA.out W); have CH : Hid (∀ V, Below w.heap.size w V → Calls Tryz.prog 151 #[.map (some fb), .string a, xv i.op i.n i.nm (.slice p i.args.length cap), .int .i64 ((k : Int) + 1)] V (tFr (choE a i (k + 1) m) V)) := (Lib.hid fun V hV => ih (k + 1) _ V (by omega) (hf.later hV) (hxi V hV) (by have := hV.size; omega)); have EV := Lib.hid (fun lo W => elV_fr lo W a k HA.out); have HB2 := Lib.hid hb2; have HB0 := Lib.hid B0; have HB1 := Lib.hid B1; have EE : Hid (choE a i k (m + 1) = .mk 22 0 ⟨#[]⟩ [.mk 15 0 ⟨#[]⟩ [i, cst k], elV a k, choE a i (k + 1) m]) := Lib.hid rfl; have hEVd : elV a k = .mk 2 0 (elmN a k) [] := rfl; rw [hEVd] at EE EV; have c0 := B0.c 0 _ rfl; have c1 := B0.c 1 _ rfl; have c2 := B0.c 2 _ rfl; have c3 := B0.c 3 _ rfl; clear F0 hb1 hbz hb2 B0 B1 hf hx hs hxi LEN hEVd ih; generalize choE a i (k + 1) m = C at *
    generalize choE a i k (m + 1) = R at *
    generalize elmN a k = M at *
    go_enter Tryz.func151, Tryz.ntmps151
    go_wp2_with fail
    clear hW0; go_wp2_with (first
      | (go_at_call 152; ((with_reducible refine LC.out.mono ?_); rintro e w4 ⟨rfl, rfl⟩))
      | (go_at_call 88; ((with_reducible refine CL.out.mono ?_); rintro e w5 ⟨v5, rfl, hfr5, hb5⟩; obtain ⟨p5, c5, rfl, h5s, h5c⟩ := hfr5.form; have HFR5 := Lib.hid hfr5; have HB5 := Lib.hid hb5; clear hb5 hfr5))
      | (go_at_call 135; ((with_reducible refine (KC.out _).mono ?_); rintro e w6 ⟨rfl, hb⟩; have HB6 := Lib.hid hb; clear hb)))
    have hs5 := HB5.out.size; have hs6 := HB6.out.size; have b8 := ba w6 (.cells #[.int .i64 i.op, .int .i64 i.n, .string i.nm, .slice p5 i.args.length c5, .int .i64 1, .int .i64 k, .string ⟨#[]⟩, .slice none 0 0] 43); have b9 := ba (w6.alloc (.cells #[.int .i64 i.op, .int .i64 i.n, .string i.nm, .slice p5 i.args.length c5, .int .i64 1, .int .i64 k, .string ⟨#[]⟩, .slice none 0 0] 43)) (.cells #[.int .i64 15, .int .i64 0, .string ⟨#[]⟩, .slice (some ⟨w6.heap.size, 0, none⟩) 2 2] 43); have B8 := (Blk.new w6 [.int .i64 i.op, .int .i64 i.n, .string i.nm, .slice p5 i.args.length c5, .int .i64 1, .int .i64 k, .string ⟨#[]⟩, .slice none 0 0] 43).stay b9; have B9 := Blk.new (w6.alloc (.cells #[.int .i64 i.op, .int .i64 i.n, .string i.nm, .slice p5 i.args.length c5, .int .i64 1, .int .i64 k, .string ⟨#[]⟩, .slice none 0 0] 43)) [.int .i64 15, .int .i64 0, .string ⟨#[]⟩, .slice (some ⟨w6.heap.size, 0, none⟩) 2 2] 43; have z8 := World.size_alloc w6 (.cells #[.int .i64 i.op, .int .i64 i.n, .string i.nm, .slice p5 i.args.length c5, .int .i64 1, .int .i64 k, .string ⟨#[]⟩, .slice none 0 0] 43); rw [z8] at B9; simp only [List.toArray] at B8 B9; have b69 := b8.then_ b9; obtain ⟨W7, hW7⟩ : ∃ W7, (w6.alloc (.cells #[.int .i64 i.op, .int .i64 i.n, .string i.nm, .slice p5 i.args.length c5, .int .i64 1, .int .i64 k, .string ⟨#[]⟩, .slice none 0 0] 43)).alloc (.cells #[.int .i64 15, .int .i64 0, .string ⟨#[]⟩, .slice (some ⟨w6.heap.size, 0, none⟩) 2 2] 43) = W7 := ⟨_, rfl⟩; rw [hW7] at B8 B9 b69 ⊢; clear hW7 b8 b9 z8 c0 c1 c2 c3; have b57 := HB6.out.then_ b69; have b07 := HB5.out.then_ b57; have FH : Fr (w.heap.size + 2) W7 (xv 15 0 ⟨#[]⟩ (.slice (some ⟨w6.heap.size, 0, none⟩) 2 2)) (.mk 15 0 ⟨#[]⟩ [i, cst k]) :=
      two_args (T := fun b => w.heap.size + 2 ≤ b ∧ b < W7.heap.size) (c := i) (e := cst k) ⟨by omega, B8.lt⟩ B8 ((HFR5.out.later b57).low (by omega)) (cst_fr _ _ _)
    have HFH := Lib.hid FH; have k0 := SC.of (w := w) (RC.mk (HB0.out.stay b07) (Room4.of (HB1.out.stay b07)) B9 (by omega) (HB2.out.then_ b07)); have EC : Hid (∀ V V', SC w (w6.heap.size + 1) w6.heap.size i.op i.n i.nm (.slice p i.args.length cap) V → Below V.heap.size V V' → SC w (w6.heap.size + 1) w6.heap.size i.op i.n i.nm (.slice p i.args.length cap) V') := (Lib.hid fun V V' h hb => SC.of (h.r.stay hb)); have EC2 : Hid (∀ V x0 x1 x2 x3, SC w (w6.heap.size + 1) w6.heap.size i.op i.n i.nm (.slice p i.args.length cap) V → SC w (w6.heap.size + 1) w6.heap.size i.op i.n i.nm (.slice p i.args.length cap) ((((V.setCell ⟨w.heap.size + 1, 0, none⟩ x0).setCell ⟨w.heap.size + 1, 1, none⟩ x1).setCell ⟨w.heap.size + 1, 2, none⟩ x2).setCell ⟨w.heap.size + 1, 3, none⟩ x3)) := (Lib.hid fun V x0 x1 x2 x3 h => SC.of h.r.put.put.put.put); have k1 := EC.out _ W7.drew k0 (Below.refl _ _).drew
    have KV : Hid (∀ V, SC w (w6.heap.size + 1) w6.heap.size i.op i.n i.nm (.slice p i.args.length cap) V → Calls Tryz.prog 150 #[.string a, .int .i64 k] V fun e w' => e = .returned (xv 2 0 M (.slice none 0 0)) ∧ SC w (w6.heap.size + 1) w6.heap.size i.op i.n i.nm (.slice p i.args.length cap) w' ∧ Hid (Below V.heap.size V w')) :=
      Lib.hid fun V h => (VC.out V).mono fun e w' ⟨h1, h2⟩ => ⟨h1, EC.out _ _ h h2, Lib.hid h2⟩
    have KH : Hid (∀ V, SC w (w6.heap.size + 1) w6.heap.size i.op i.n i.nm (.slice p i.args.length cap) V → Calls Tryz.prog 151 #[.map (some fb), .string a, xv i.op i.n i.nm (.slice p i.args.length cap), .int .i64 ((k : Int) + 1)] V fun e w' => ∃ q c, e = .returned (xv C.op C.n C.nm (.slice q C.args.length c)) ∧ SC w (w6.heap.size + 1) w6.heap.size i.op i.n i.nm (.slice p i.args.length cap) w' ∧ Hid (Fr (w.heap.size + 2) w' (xv C.op C.n C.nm (.slice q C.args.length c)) C) ∧ Hid (Below V.heap.size V w')) :=
      Lib.hid fun V h => (CH.out V h.r.lo).mono fun e w' ⟨v, h1, h2, h3⟩ => by
        obtain ⟨q, c, rfl, _⟩ := h2.form; exact ⟨q, c, h1, EC.out _ _ h h3, Lib.hid (h2.low (by have := h.r.rm.lt; omega)), Lib.hid h3⟩
    clear VC CH b57 b07 b69 B8 B9 FH HFR5 HB0 HB1 HB5 HB6 HB2 KC CL LC HXI; generalize i.op = o at *
    generalize i.n = nn at *
    generalize i.nm = s at *
    generalize i.args.length = K at *
    go_region_held3 (fun V => V.cell? ⟨w.heap.size, 0, none⟩ = some (.int .i64 o) ∧ V.cell? ⟨w.heap.size, 1, none⟩ = some (.int .i64 nn) ∧ V.cell? ⟨w.heap.size, 2, none⟩ = some (.string s) ∧ V.cell? ⟨w.heap.size, 3, none⟩ = some (.slice p K cap) ∧
      V.cell? ⟨w6.heap.size + 1, 0, none⟩ = some (.int .i64 15) ∧ V.cell? ⟨w6.heap.size + 1, 1, none⟩ = some (.int .i64 0) ∧ V.cell? ⟨w6.heap.size + 1, 2, none⟩ = some (.string ⟨#[]⟩) ∧ V.cell? ⟨w6.heap.size + 1, 3, none⟩ = some (.slice (some ⟨w6.heap.size, 0, none⟩) 2 2) ∧
      RC w (w6.heap.size + 1) [.int .i64 o, .int .i64 nn, .string s, .slice p K cap] [.int .i64 15, .int .i64 0, .string ⟨#[]⟩, .slice (some ⟨w6.heap.size, 0, none⟩) 2 2] V)
      (first | with_reducible assumption | (refine EC.out _ _ ?_ (ba _ _); with_reducible assumption) | (refine EC.out _ _ (EC2.out _ _ _ _ _ ?_) (ba _ _); with_reducible assumption) | (refine EC2.out _ _ _ _ _ (EC.out _ _ ?_ (ba _ _)); with_reducible assumption) | fail)
      (first
        | (go_at_call 150; (with_reducible refine (KV.out _ ?_).mono ?_); assumption; rintro x w8 ⟨rfl, hg8, hb8⟩)
        | (go_at_call 151; (with_reducible refine (KH.out _ ?_).mono ?_); assumption; rintro x w9 ⟨q9, c9, rfl, hg9, hf9, hb9⟩; have hl9 := hg9.r.rm.lt; obtain ⟨z0, z1, z2, z3, ⟨_, y0⟩, ⟨_, y1⟩, ⟨_, y2⟩, ⟨_, y3⟩⟩ := hg9.r.rm.facts))
    all_goals
      have hb79 : Below W7.heap.size W7 w9 := (Below.refl _ _).drew.trans (hb8.out.then_ hb9.out); have HP := hg9.r.rm.cells (.int .i64 22) (.int .i64 0) (.string ⟨#[]⟩) (.slice (some ⟨w9.heap.size, 0, none⟩) 3 3); have hl := ((hg9.r.put (i := 0) (x := .int .i64 22)).put (i := 1) (x := .int .i64 0)).put (i := 2) (x := .string ⟨#[]⟩); have hlo := (hl.put (i := 3) (x := .slice (some ⟨w9.heap.size, 0, none⟩) 3 3)).lo; have hfh := fr_put4 (g := w.heap.size + 1) (HFH.out.later hb79) (.int .i64 22) (.int .i64 0) (.string ⟨#[]⟩) (.slice (some ⟨w9.heap.size, 0, none⟩) 3 3); have hfc := fr_put4 (g := w.heap.size + 1) hf9.out (.int .i64 22) (.int .i64 0) (.string ⟨#[]⟩) (.slice (some ⟨w9.heap.size, 0, none⟩) 3 3); have hz : ((((w9.setCell ⟨w.heap.size + 1, 0, none⟩ (.int .i64 22)).setCell ⟨w.heap.size + 1, 1, none⟩ (.int .i64 0)).setCell ⟨w.heap.size + 1, 2, none⟩ (.string ⟨#[]⟩)).setCell ⟨w.heap.size + 1, 3, none⟩ (.slice (some ⟨w9.heap.size, 0, none⟩) 3 3)).heap.size = w9.heap.size := (by simp only [setCell_size]); clear hl; go_wp2; clear KV KH EC EC2 k0 k1 hg8 hg9 hf9 HFH hb79; obtain ⟨V, hV⟩ : ∃ V, ((((w9.setCell ⟨w.heap.size + 1, 0, none⟩ (.int .i64 22)).setCell ⟨w.heap.size + 1, 1, none⟩ (.int .i64 0)).setCell ⟨w.heap.size + 1, 2, none⟩ (.string ⟨#[]⟩)).setCell ⟨w.heap.size + 1, 3, none⟩ (.slice (some ⟨w9.heap.size, 0, none⟩) 3 3)) = V := ⟨_, rfl⟩; rw [hV] at HP hlo hfh hfc hz ⊢; clear hV; have bx := ba V (.cells #[.int .i64 15, .int .i64 0, .string ⟨#[]⟩, .slice (some ⟨w6.heap.size, 0, none⟩) 2 2, .int .i64 2, .int .i64 0, .string M, .slice none 0 0, .int .i64 C.op, .int .i64 C.n, .string C.nm, .slice q9 C.args.length c9] 43); have Bx := Blk.at_ hz [.int .i64 15, .int .i64 0, .string ⟨#[]⟩, .slice (some ⟨w6.heap.size, 0, none⟩) 2 2, .int .i64 2, .int .i64 0, .string M, .slice none 0 0, .int .i64 C.op, .int .i64 C.n, .string C.nm, .slice q9 C.args.length c9] 43; have hr := three_args (T := fun b => w.heap.size + 1 + 1 ≤ b ∧ b < _) (op := 22) (x := .mk 15 0 ⟨#[]⟩ [i, cst k]) (y := .mk 2 0 M []) (z := C) ⟨by omega, Bx.lt⟩ Bx (hfh.later bx) (EV.out _ _) (hfc.later bx); have hp := HP.stay bx; have p0 := hp.c 0 _ rfl; have p1 := hp.c 1 _ rfl; have p2 := hp.c 2 _ rfl; have p3 := hp.c 3 _ rfl; rw [EE.out]; exact bodyPost_ret (v := xv 22 0 ⟨#[]⟩ (.slice (some ⟨w9.heap.size, 0, none⟩) 3 3)) (by simp [results, Tryz.results151, go_sem, p0, p1, p2, p3]) rfl ⟨_, rfl, Fr.low hr (by omega), hlo.then_ bx⟩
set_option maxRecDepth 100000 in
set_option maxHeartbeats 16000000 in
theorem element_any (fb : Nat) (fs : List Fld) (hS : ∀ f ∈ fs, 0 ≤ f.sz ∧ f.sz ≤ 8) (a : ByteArray) (ha : a.size ≤ 100) (n : Nat) (hn : szI fs a = n) (i : Ex) (hsz : sz i ≤ 10000) (h0 : i.op = 1 → 0 ≤ i.n) (N : Nat) (vi : Value) (w : World) (hf : FsA w fb fs) (hx : ExAt N w vi i) (hN : N ≤ w.heap.size) :
    Calls Tryz.prog 100 #[.map (some fb), .string a, vi] w (tFr (elmE a n i) w) := by
  have h8 := szI_bound fs hS a; rw [hn] at h8; have hn8 : n ≤ 8 := (by omega); obtain ⟨p, cap, pl, cl, rfl, hs, _⟩ := hx.form; have hb1 := ba w (.cells #[.int .i64 i.op, .int .i64 i.n, .string i.nm, .slice p i.args.length cap] 43); have B0 := (Blk.new w [.int .i64 i.op, .int .i64 i.n, .string i.nm, .slice p i.args.length cap] 43).stay (ba _ (.cells #[.int .i64 0, .int .i64 0, .string ⟨#[]⟩, .slice none 0 0] 43)); have hb2 := hb1.then_ (ba _ (.cells #[.int .i64 0, .int .i64 0, .string ⟨#[]⟩, .slice none 0 0] 43)); have F1 := Four.new (w.alloc (.cells #[.int .i64 i.op, .int .i64 i.n, .string i.nm, .slice p i.args.length cap] 43)) (.int .i64 0) (.int .i64 0) (.string ⟨#[]⟩) (.slice none 0 0) 43; rw [World.size_alloc] at F1; have hlk := (fun (W : World) (hW : Below w.heap.size w W) => (hf.later hW).look a (by omega)); rw [hn] at hlk; have CH : Hid (∀ V, Below w.heap.size w V → Calls Tryz.prog 151 #[.map (some fb), .string a, xv i.op i.n i.nm (.slice p i.args.length cap), .int .i64 0] V (tFr (choE a i 0 n) V)) := (Lib.hid fun V hV => choice_any fb fs hS a ha n hn i hsz N n 0 _ V (by omega) (hf.later hV) (hx.under (hV.mono hN)) (by have := hV.size; omega)); have KC : Hid (∀ W, Calls Tryz.prog 135 #[.int .i64 0] W fun e w' => e = .returned (xv 1 0 ⟨#[]⟩ (.slice none 0 0)) ∧ Below W.heap.size W w') := (Lib.hid fun W => constant_any 0 W); have EE : Hid (elmE a n i = if i.op = 1 then (if i.n < n then elV a i.n.toNat else cst 0) else choE a i 0 n) := Lib.hid rfl; obtain ⟨W0, hW0⟩ : ∃ W0, (w.alloc (.cells #[.int .i64 i.op, .int .i64 i.n, .string i.nm, .slice p i.args.length cap] 43)).alloc (.cells #[.int .i64 0, .int .i64 0, .string ⟨#[]⟩, .slice none 0 0] 43) = W0 := ⟨_, rfl⟩; simp only [List.toArray] at B0; rw [hW0] at B0 F1 hb2; have hl0 := hlk W0 hb2; have c0 := B0.c 0 _ rfl; have c1 := B0.c 1 _ rfl; have c2 := B0.c 2 _ rfl; have c3 := B0.c 3 _ rfl; have HB2 := Lib.hid hb2; have HF1 := Lib.hid F1; have HA := Lib.hid ha; clear hb1 hb2 B0 F1 hf hx hs hlk hS hn h8; by_cases h1 : i.op = 1
  · have hi0 := h0 h1; obtain ⟨k, hk⟩ : ∃ k : Nat, i.n = k := ⟨i.n.toNat, by omega⟩; rw [if_pos h1, hk] at EE; rw [h1] at c0 CH hW0; rw [hk] at c1 CH hW0; rw [h1, hk]; clear CH h0 hi0 h1 hk; by_cases hkn : k < n
    · rw [if_pos (by omega), Int.toNat_natCast] at EE; have VC : Hid (∀ W, Calls Tryz.prog 150 #[.string a, .int .i64 k] W fun e w' => e = .returned (xv 2 0 (elmN a k) (.slice none 0 0)) ∧ Below W.heap.size W w') := (Lib.hid fun W => variable_any a k (by omega) HA.out W); have EV := Lib.hid (fun lo W => elV_fr lo W a k HA.out); have hd : decide ((k : Int) < (n : Int)) = true := decide_eq_true (by omega); generalize elmN a k = M at *
      generalize elmE a n i = R at *
      go_enter Tryz.func100, Tryz.ntmps100
      go_wp2_with (first
        | (go_at_call 150; ((with_reducible refine (VC.out _).mono ?_); rintro e w5 ⟨rfl, hb⟩; have f5 := HF1.out.stay hb; have e0 := f5.c0; have e1 := f5.c1; have e2 := f5.c2; have e3 := f5.c3; have z0 := f5.f0; have z1 := f5.f1; have z2 := f5.f2; have z3 := f5.f3; have G5 := Lib.hid f5; have HB5 := Lib.hid (HB2.out.then_ hb); clear hb f5)))
      have hp := G5.out.put (.int .i64 2) (.int .i64 0) (.string M) (.slice none 0 0); have p0 := hp.c0; have p1 := hp.c1; have p2 := hp.c2; have p3 := hp.c3; refine bodyPost_ret (v := xv 2 0 M (.slice none 0 0)) (by simp [results, Tryz.results100, go_sem, p0, p1, p2, p3]) rfl ?_; rw [EE.out]; exact ⟨_, rfl, EV.out _ _, below_put HB5.out (by omega) _ _ _ _⟩
    · rw [if_neg (by omega)] at EE; have hd : decide ((k : Int) < (n : Int)) = false := decide_eq_false (by omega); generalize elmE a n i = R at *
      go_enter Tryz.func100, Tryz.ntmps100
      go_wp2_with (first
        | (go_at_call 135; ((with_reducible refine (KC.out _).mono ?_); rintro e w5 ⟨rfl, hb⟩; have f5 := HF1.out.stay hb; have e0 := f5.c0; have e1 := f5.c1; have e2 := f5.c2; have e3 := f5.c3; have z0 := f5.f0; have z1 := f5.f1; have z2 := f5.f2; have z3 := f5.f3; have G5 := Lib.hid f5; have HB5 := Lib.hid (HB2.out.then_ hb); clear hb f5)))
      have hp := G5.out.put (.int .i64 1) (.int .i64 0) (.string ⟨#[]⟩) (.slice none 0 0); have p0 := hp.c0; have p1 := hp.c1; have p2 := hp.c2; have p3 := hp.c3; refine bodyPost_ret (v := xv 1 0 ⟨#[]⟩ (.slice none 0 0)) (by simp [results, Tryz.results100, go_sem, p0, p1, p2, p3]) rfl ?_; rw [EE.out]; exact ⟨_, rfl, cst_fr _ _ 0, below_put HB5.out (by omega) _ _ _ _⟩
  · rw [if_neg h1] at EE; have f1 : (i.op == 1) = false := (by rw [beq_eq_false_iff_ne]; exact h1); generalize choE a i 0 n = C at *
    generalize elmE a n i = R at *
    generalize i.op = o at *
    generalize i.n = nn at *
    generalize i.nm = s at *
    generalize i.args.length = K at *
    clear h0 h1
    go_enter Tryz.func100, Tryz.ntmps100
    go_wp2_with (first
      | (go_at_call 151; ((with_reducible refine (CH.out _ HB2.out).mono ?_); rintro e w5 ⟨v5, rfl, hfr5, hb⟩; obtain ⟨q5, c5, rfl, _⟩ := hfr5.form; have HFR := Lib.hid hfr5; have f5 := HF1.out.stay hb; have e0 := f5.c0; have e1 := f5.c1; have e2 := f5.c2; have e3 := f5.c3; have z0 := f5.f0; have z1 := f5.f1; have z2 := f5.f2; have z3 := f5.f3; have G5 := Lib.hid f5; have HB5 := Lib.hid (HB2.out.then_ hb); clear hb f5 hfr5)))
    have hp := G5.out.put (.int .i64 C.op) (.int .i64 C.n) (.string C.nm) (.slice q5 C.args.length c5); have p0 := hp.c0; have p1 := hp.c1; have p2 := hp.c2; have p3 := hp.c3; have hl0 := HF1.out.lt; refine bodyPost_ret (v := xv C.op C.n C.nm (.slice q5 C.args.length c5)) (by simp [results, Tryz.results100, go_sem, p0, p1, p2, p3]) rfl ?_; rw [EE.out]; exact ⟨_, rfl, (fr_put4 (g := w.heap.size + 1) (HFR.out.low (by omega)) _ _ _ _).low (by omega), below_put HB5.out (by omega) _ _ _ _⟩
end Go.Proofs.YtpejflgdehioaaaGreatDoor.ItW
