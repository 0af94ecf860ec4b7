/-
  Laws that the card uses; no conditions beside those that each states (ItRVal ItOwn ItAll ItRNms).
-/
import Derived.Test.YtpejflgdehioaaaGreatDoorT41
import Derived.Test.YtpejflgdehioaaaGreatDoorT44
namespace Go.Proofs.YtpejflgdehioaaaGreatDoor.ItW
open Go Go.RowKit Go.Proofs.YtpejflgdehioaaaGreatDoor.NumM Go.Proofs.YtpejflgdehioaaaGreatDoor.LexW Go.Proofs.YtpejflgdehioaaaGreatDoor.LexM Go.Proofs.YtpejflgdehioaaaGreatDoor.ExM Go.Proofs.YtpejflgdehioaaaGreatDoor.ExW Go.Proofs.YtpejflgdehioaaaGreatDoor.ItM
open Go.Proofs.YtpejflgdehioaaaGreatDoor.ClM (firstE firstE_zero)
theorem quietN {P : Program} {f : FuncId} {args : Array Value} {w : World} {n : Nat} {v : Value} (h : Calls P f args (w.drewN n) fun e w' => e = .returned v ∧ ∃ m, w' = (w.drewN n).drewN m) : Calls P f args (w.drewN n) fun e w'' => e = .returned v ∧ ∃ m, w'' = w.drewN m :=
  h.mono fun _ _ ⟨he, m, hm⟩ => ⟨he, n + m, by rw [hm, World.drewN_drewN]⟩
theorem dB {w : World} {n : Nat} : Below w.heap.size w (w.drewN n) := drewB (Below.refl _ _)
theorem reti {a b : Int} (h : a = b) : Ending.returned (.int .i64 a) = .returned (.int .i64 b) := by rw [h]
theorem kids_take {l : List It} {j : Nat} {a : It} (h : l[j]? = some a) : (l.length - (j + 1)) + iszs (l.take (j + 1)) = (l.length - j) + iszs (l.take j) + iszs a.it + iszs a.el := by
  have h1 := (List.getElem?_eq_some_iff.1 h).1; have h2 := iszs_take h; have h3 := isz_eq a; omega
set_option maxRecDepth 100000 in
set_option maxHeartbeats 8000000 in
theorem sizeR_any (l : List It) : ∀ (v : Value) (N : Nat) (w : World), ItsA N w v l → N ≤ w.heap.size → iszs l ≤ 10000 → Calls Tryz.prog 13 #[v] w fun e w' => e = .returned (.int .i64 (iszs l)) ∧ ∃ m, w' = w.drewN m := by
  induction l using its_ind with
  | h l ih =>
    intro v N w hx hN hsz; obtain ⟨p, cap, V, rfl, hr⟩ := hx.form; have hl := hr.hl; have HR := Lib.hid hr; have HIH := Lib.hid ih; have hlen := len_iszs l; obtain ⟨K, hK⟩ : ∃ K, l.length = K := ⟨_, rfl⟩; have HK := Lib.hid hK; rw [hK] at hl hlen ⊢; have HT0 : Hid ((K - 0) + iszs (l.take 0) = K) := Lib.hid (by rw [List.take_zero, iszs_nil]; omega); clear hx hr ih hK
    go_enter Tryz.func13, Tryz.ntmps13
    go_wp2; go_loopw [3, 4] (fun s i wr => ∃ (j t : Nat), j ≤ K ∧ i = .int .i64 j ∧ s = .int .i64 t ∧ t ≤ 20000 ∧ Hid (t = (K - j) + iszs (l.take j)) ∧ Hid (∃ m, wr = w.drewN m)) (fun _ i _ => K - (intOf i).toNat)
    case atStart => exact ⟨0, K, Nat.zero_le _, rfl, rfl, by omega, Lib.hid HT0.out.symm, Lib.hid ⟨0, rfl⟩⟩
    case round =>
      obtain ⟨j, t, hj, rfl, rfl, ht, TW, DW⟩ := hrel; have hbw : Below w.heap.size w wr := by
        obtain ⟨m, hm⟩ := DW.out; rw [hm]; exact drewB (Below.refl _ _)
      by_cases hlt : j < K
      · obtain ⟨a, ha⟩ : ∃ a, l[j]? = some a := ⟨_, List.getElem?_eq_getElem (by rw [HK.out]; exact hlt)⟩; have hmem := List.mem_of_getElem? ha; have hr2 := HR.out.under (hbw.mono hN); obtain ⟨b, off, rfl, hb, hcell⟩ := hr2.hp (by rw [HK.out]; omega); have hva := hr2.hv j a ha; have hc := hcell j a ha; have g8 := hc.c8; have g9 := hc.c9; obtain ⟨p4, k4, p7, k7, p8, k8, p9, k9, p10, k10, p11, k11, e4, e7, e8, e9, e10, e11⟩ := hva.slices; have hi8 := hva.its; have hi9 := hva.els; rw [e8] at g8 hi8; rw [e9] at g9 hi9; have hkt := kids_take ha; rw [HK.out] at hkt; have hil := isz_mem hmem; have hie := isz_eq a; have hA : iszs a.it ≤ 10000 := (by omega); have hB : iszs a.el ≤ 10000 := (by omega); have VC8 : Hid (∀ W, Below wr.heap.size wr W → Calls Tryz.prog 13 #[.slice p8 a.it.length k8] W fun e w' => e = .returned (.int .i64 (iszs a.it)) ∧ ∃ m, w' = W.drewN m) := (Lib.hid fun W hW => (HIH.out a hmem).1 _ N W (hi8.under (hW.mono (Nat.le_trans hN hbw.size))) (Nat.le_trans (Nat.le_trans hN hbw.size) hW.size) hA); have VC9 : Hid (∀ W, Below wr.heap.size wr W → Calls Tryz.prog 13 #[.slice p9 a.el.length k9] W fun e w' => e = .returned (.int .i64 (iszs a.el)) ∧ ∃ m, w' = W.drewN m) := (Lib.hid fun W hW => (HIH.out a hmem).2 _ N W (hi9.under (hW.mono (Nat.le_trans hN hbw.size))) (Nat.le_trans (Nat.le_trans hN hbw.size) hW.size) hB); have TN : Hid (t + iszs a.it + iszs a.el = (K - (j + 1)) + iszs (l.take (j + 1))) := Lib.hid (by rw [hkt, TW.out]); have htl := iszs_take_le (j + 1) l; have htn : t + iszs a.it + iszs a.el ≤ 20000 := (by have := TN.out; omega); clear hcell hva hc hi8 hi9 hr2 e4 e7 e8 e9 e10 e11 ha hmem hkt hil hie htl; generalize iszs a.it = A at *
        generalize iszs a.el = B at *
        generalize a.it.length = KA at *
        generalize a.el.length = KB at *
        have hw1 : IntKind.i64.wrap ((t : Int) + (A : Int)) = (t : Int) + (A : Int) := IntWalk.i64_in _ (by omega); have hw2 : IntKind.i64.wrap ((t : Int) + (A : Int) + (B : Int)) = (t : Int) + (A : Int) + (B : Int) := IntWalk.i64_in _ (by omega); go_wp2; go_quiet ((go_at_call 13; first | with_reducible exact quietN (VC8.out _ dB) | with_reducible exact quietN (VC9.out _ dB)))
        go_wp2; go_roundw
        case rel => exact ⟨j + 1, t + A + B, by omega, by go_num, by go_num, htn, TN, Lib.hid (by obtain ⟨m, hm⟩ := DW.out; exact ⟨m + nq, by rw [hm, World.drewN_drewN]⟩)⟩
        case measure => simp [intOf]; omega
      · have hjK : j = K := (by omega); have TE : Hid ((t : Int) = (iszs l : Int)) := Lib.hid (by
          have := TW.out; rw [List.take_of_length_le (by rw [HK.out]; omega)] at this; omega)
        have R := DW; clear hjK; go_wp2; go_ret; exact ⟨reti TE.out, R.out⟩
def vlL (d : Nat) (l : List It) : Int := firstE ((wks d [] l).map fltP)
theorem flt_map (l : List It) : ∀ d B, (wks d B l).map fltP = (wks d [] l).map fltP := by
  induction l using its_rec with
  | h0 => intro d B; rw [wks_nil, wks_nil]
  | h1 x r h1 h2 h3 =>
    intro d B; rw [wks_cons, wks_cons, wk_eq, wk_eq]; simp only [List.map_append, List.map_cons]; rw [h1 (d + 1) (inn x.kd x.ix B), h1 (d + 1) (inn x.kd x.ix []), h2 (d + 1) B, h3 d B]; rfl
theorem vl_nil (d : Nat) : vlL d [] = 0 := by unfold vlL; rw [wks_nil]; rfl
theorem vl_append (d : Nat) (a b : List It) : vlL d (a ++ b) = if vlL d a = 0 then vlL d b else vlL d a := by
  unfold vlL; rw [wks_append, List.map_append, firstE_append]
theorem vl_cons (d : Nat) (a : It) (r : List It) : vlL d (a :: r) = if fltI d a = 0 then (if vlL (d + 1) a.it = 0 then (if vlL (d + 1) a.el = 0 then vlL d r else vlL (d + 1) a.el) else vlL (d + 1) a.it) else fltI d a := by
  unfold vlL; rw [wks_cons, wk_eq, List.map_append, List.map_cons, List.map_append, List.cons_append, firstE_cons, firstE_append, firstE_append, flt_map a.it (d + 1) (inn a.kd a.ix [])]; show (if fltI d a = 0 then _ else fltI d a) = _; by_cases h1 : fltI d a = 0
  · rw [if_pos h1, if_pos h1]; by_cases h2 : firstE ((wks (d + 1) [] a.it).map fltP) = 0
    · simp only [h2, if_true]
    · simp only [h2, if_false]
  · rw [if_neg h1, if_neg h1]
theorem vl_at {d j : Nat} {l : List It} {a : It} (h : l[j]? = some a) (h0 : vlL d (l.take j) = 0) :
    (fltI d a ≠ 0 → vlL d l = fltI d a) ∧ (fltI d a = 0 → vlL (d + 1) a.it ≠ 0 → vlL d l = vlL (d + 1) a.it) ∧ (fltI d a = 0 → vlL (d + 1) a.it = 0 → vlL (d + 1) a.el ≠ 0 → vlL d l = vlL (d + 1) a.el) ∧
      (fltI d a = 0 → vlL (d + 1) a.it = 0 → vlL (d + 1) a.el = 0 → vlL d (l.take (j + 1)) = 0) := by
  obtain ⟨hj, he⟩ := List.getElem?_eq_some_iff.1 h; have hs : l = l.take j ++ a :: l.drop (j + 1) := by
    rw [← he, List.getElem_cons_drop hj, List.take_append_drop]
  have e := vl_append d (l.take j) (a :: l.drop (j + 1)); rw [← hs, if_pos h0, vl_cons] at e; have e2 := vl_append d (l.take j) [a]; rw [← he, ← List.take_succ_eq_append_getElem hj, if_pos h0, he, vl_cons, vl_nil] at e2; refine ⟨fun h1 => by rw [e, if_neg h1], fun h1 h2 => by rw [e, if_pos h1, if_neg h2], fun h1 h2 h3 => by rw [e, if_pos h1, if_pos h2, if_neg h3], fun h1 h2 h3 => by rw [e2, if_pos h1, if_pos h2, if_pos h3]⟩
theorem flt_deep2 {d : Nat} {x : It} (h : fltI d x = 0) : d ≤ 4 := by
  unfold fltI at h; split at h
  · cases h
  · rename_i hn; simp only [Bool.or_eq_true, decide_eq_true_eq, not_or] at hn; omega
set_option maxRecDepth 100000 in
set_option maxHeartbeats 16000000 in
theorem validLR_any (l : List It) : ∀ (d : Nat) (v : Value) (N : Nat) (w : World), d ≤ 5 → ItsA N w v l → N ≤ w.heap.size → RsL l → Calls Tryz.prog 41 #[v, .int .i64 d] w (tInt (vlL d l) w) := by
  induction l using its_ind with
  | h l ih =>
    intro d v N w hd5 hx hN hrs; obtain ⟨p, cap, V, rfl, hr⟩ := hx.form; have hl := hr.hl; have HR := Lib.hid hr; have HIH := Lib.hid ih; have HRS := Lib.hid hrs; obtain ⟨K, hK⟩ : ∃ K, l.length = K := ⟨_, rfl⟩; have HK := Lib.hid hK; rw [hK] at hl ⊢; have hk47 : K ≤ 140737488351232 := (by omega); have HV0 : Hid (vlL d (l.take 0) = 0) := Lib.hid (by rw [List.take_zero]; exact vl_nil d); have HB0 := Lib.hid (Below.refl w.heap.size w); clear hx hr ih hK hrs hl
    go_enter Tryz.func41, Tryz.ntmps41
    go_wp2; go_loopw [5] (fun i wr => ∃ (j : Nat), j ≤ K ∧ i = .int .i64 j ∧ Hid (vlL d (l.take j) = 0) ∧ Hid (Below w.heap.size w wr)) (fun i _ => K - (intOf i).toNat)
    case atStart => exact ⟨0, Nat.zero_le _, rfl, HV0, HB0⟩
    case round =>
      obtain ⟨j, hj, rfl, VW, BW⟩ := hrel; by_cases hlt : j < K
      · obtain ⟨a, ha⟩ : ∃ a, l[j]? = some a := ⟨_, List.getElem?_eq_getElem (by rw [HK.out]; exact hlt)⟩; have hmem := List.mem_of_getElem? ha; obtain ⟨b, off, rfl, hb, hcell⟩ := HR.out.hp (by rw [HK.out]; omega); have hva := HR.out.hv j a ha; have hc := hcell j a ha; have hrs := (rsI_eq a).1 (rsL_mem.1 HRS.out a hmem); have WC0 := (fun (W : World) (hW : Below w.heap.size w W) => wrongR_any a _ _ _ _ _ _ N d (by omega) W (hva.under (hW.mono hN)) (by have := hW.size; omega) hrs.1.1); have hi8 := hva.its; have hi9 := hva.els; obtain ⟨p4, k4, p7, k7, p8, k8, p9, k9, p10, k10, p11, k11, e4, e7, e8, e9, e10, e11⟩ := hva.slices; have HCE : Hid (∀ W, Below w.heap.size w W → C12 W b (off + j * 12) a (V j)) := (Lib.hid fun W hW => hc.kept (low_cells (hW.mono hN) b · hb)); have AT := Lib.hid (vl_at ha VW.out); have VC8 : Hid (∀ W, Below w.heap.size w W → fltI d a = 0 → Calls Tryz.prog 41 #[.slice p8 a.it.length k8, .int .i64 ((d : Int) + 1)] W (tInt (vlL (d + 1) a.it) W)) := Lib.hid fun W hW h0 => by
          have := (HIH.out a hmem).1 (d + 1) _ N W (by have := flt_deep2 h0; omega) (hi8.under (hW.mono hN)) (by have := hW.size; omega) hrs.2.1; rw [e8] at this; exact this
        have VC9 : Hid (∀ W, Below w.heap.size w W → fltI d a = 0 → Calls Tryz.prog 41 #[.slice p9 a.el.length k9, .int .i64 ((d : Int) + 1)] W (tInt (vlL (d + 1) a.el) W)) := Lib.hid fun W hW h0 => by
          have := (HIH.out a hmem).2 (d + 1) _ N W (by have := flt_deep2 h0; omega) (hi9.under (hW.mono hN)) (by have := hW.size; omega) hrs.2.2; rw [e9] at this; exact this
        obtain ⟨g0, g1, g2, g3, g4, g5, g6, g7, g8, g9, g10, g11⟩ := HCE.out wr BW.out; rw [e4] at g4 WC0; rw [e7] at g7 WC0; rw [e8] at g8 WC0; rw [e9] at g9 WC0; rw [e10] at g10 WC0; rw [e11] at g11 WC0; have HC8 : Hid (∀ W, Below w.heap.size w W → W.cell? ⟨b, off + j * 12 + 5 + 3, none⟩ = some (.slice p8 a.it.length k8)) := (Lib.hid fun W hW => by have := (HCE.out W hW).c8; rw [e8] at this; exact this); have HC8' : Hid (∀ W, Below w.heap.size w W → W.cell? ⟨b, off + j * 12 + 8, none⟩ = some (.slice p8 a.it.length k8)) := (Lib.hid fun W hW => by have := (HCE.out W hW).c8; rw [e8] at this; exact this); have HC9 : Hid (∀ W, Below w.heap.size w W → W.cell? ⟨b, off + j * 12 + 9, none⟩ = some (.slice p9 a.el.length k9)) := (Lib.hid fun W hW => by have := (HCE.out W hW).c9; rw [e9] at this; exact this); have WC := Lib.hid (WC0 wr BW.out); clear hcell hva hc hi8 hi9 e4 e7 e8 e9 e10 e11 ha hmem WC0 hrs HCE; generalize fltI d a = E1 at *
        generalize vlL (d + 1) a.it = E2 at *
        generalize vlL (d + 1) a.el = E3 at *
        by_cases h1 : E1 = 0
        · rw [h1] at WC; by_cases h2 : E2 = 0
          · rw [h2] at VC8; by_cases h3 : E3 = 0
            · have VN := Lib.hid (AT.out.2.2.2 h1 h2 h3); rw [h3] at VC9; have V8 := Lib.hid (fun W hW => VC8.out W hW h1); have V9 := Lib.hid (fun W hW => VC9.out W hW h1); clear h1 h2 h3 AT VC8 VC9; go_wp2_with (first
                | (go_at_call 77; ((with_reducible refine WC.out.mono ?_); rintro e w1 ⟨rfl, hb1⟩; have HB1 := Lib.hid (BW.out.then_ hb1); have g8' := HC8'.out _ HB1.out; clear hb1))
                | (go_at_call 41; ((with_reducible refine (V8.out _ HB1.out).mono ?_); rintro e w2 ⟨rfl, hb2⟩; have HB2 := Lib.hid (HB1.out.then_ hb2); have g9' := HC9.out _ HB2.out; clear hb2))
                | (go_at_call 41; ((with_reducible refine (V9.out _ HB2.out).mono ?_); rintro e w3 ⟨rfl, hb3⟩; have HB3 := Lib.hid (HB2.out.then_ hb3); clear hb3)))
              go_roundw
              case rel => exact ⟨j + 1, by omega, by go_num, VN, HB3⟩
              case measure => simp [intOf]; omega
            · have VN := Lib.hid (AT.out.2.2.1 h1 h2 h3); have f3 : (E3 != 0) = true := (by simpa using h3); have V8 := Lib.hid (fun W hW => VC8.out W hW h1); have V9 := Lib.hid (fun W hW => VC9.out W hW h1); clear h1 h2 AT VC8 VC9; go_wp2_with (first
                | (go_at_call 77; ((with_reducible refine WC.out.mono ?_); rintro e w1 ⟨rfl, hb1⟩; have HB1 := Lib.hid (BW.out.then_ hb1); have g8' := HC8'.out _ HB1.out; clear hb1))
                | (go_at_call 41; ((with_reducible refine (V8.out _ HB1.out).mono ?_); rintro e w2 ⟨rfl, hb2⟩; have HB2 := Lib.hid (HB1.out.then_ hb2); have g9' := HC9.out _ HB2.out; clear hb2))
                | (go_at_call 41; ((with_reducible refine (V9.out _ HB2.out).mono ?_); rintro e w3 ⟨rfl, hb3⟩; have HB3 := Lib.hid (HB2.out.then_ hb3); clear hb3)))
              go_ret; exact tInt_mk VN.out HB3.out
          · have VN := Lib.hid (AT.out.2.1 h1 h2); have f2 : (E2 != 0) = true := (by simpa using h2); have V8 := Lib.hid (fun W hW => VC8.out W hW h1); clear h1 AT VC8 VC9; go_wp2_with (first
              | (go_at_call 77; ((with_reducible refine WC.out.mono ?_); rintro e w1 ⟨rfl, hb1⟩; have HB1 := Lib.hid (BW.out.then_ hb1); have g8' := HC8'.out _ HB1.out; clear hb1))
              | (go_at_call 41; ((with_reducible refine (V8.out _ HB1.out).mono ?_); rintro e w2 ⟨rfl, hb2⟩; have HB2 := Lib.hid (HB1.out.then_ hb2); clear hb2)))
            go_ret; exact tInt_mk VN.out HB2.out
        · have VN := Lib.hid (AT.out.1 h1); have f1 : (E1 != 0) = true := (by simpa using h1); clear AT VC8 VC9; go_wp2_with (first
            | (go_at_call 77; ((with_reducible refine WC.out.mono ?_); rintro e w1 ⟨rfl, hb1⟩; have HB1 := Lib.hid (BW.out.then_ hb1); clear hb1)))
          go_ret; exact tInt_mk VN.out HB1.out
      · have VN : Hid (vlL d l = 0) := Lib.hid (by have := VW.out; rw [List.take_of_length_le (by rw [HK.out]; omega)] at this; exact this); go_wp2; go_ret; exact tInt_mk VN.out BW.out
set_option maxRecDepth 100000 in
theorem itemValidR_any (l : List It) (v : Value) (w : World) (hx : ItsA w.heap.size w v l) (hsz : iszs l ≤ 10000) (hrs : RsL l) :
    Calls Tryz.prog 18 #[v] w (tInt (validI l) w) := by
  have SC := Lib.hid (sizeR_any l v _ w hx (Nat.le_refl _) hsz); have VC : Hid (∀ W, Below w.heap.size w W → Calls Tryz.prog 41 #[v, .int .i64 0] W (tInt (vlL 0 l) W)) := (Lib.hid fun W hW => validLR_any l 0 v w.heap.size W (by decide) (hx.under hW) hW.size hrs); have EE : Hid (validI l = if 64 < iszs l then 2 else vlL 0 l) := Lib.hid rfl; obtain ⟨p, cap, V, rfl, _⟩ := hx.form; generalize iszs l = z at *
  generalize vlL 0 l = y at *
  generalize l.length = K at *
  by_cases h : 64 < z
  · rw [if_pos h] at EE; have d : decide ((64 : Int) < (z : Int)) = true := decide_eq_true (by omega)
    go_enter Tryz.func18, Tryz.ntmps18
    go_wp2_with (go_at_call 13; ((with_reducible refine SC.out.mono ?_); rintro e w1 ⟨rfl, m, rfl⟩))
    go_ret; exact tInt_mk EE.out dB
  · rw [if_neg h] at EE; have d : decide ((64 : Int) < (z : Int)) = false := decide_eq_false (by omega)
    go_enter Tryz.func18, Tryz.ntmps18
    go_wp2_with (first
      | (go_at_call 13; ((with_reducible refine SC.out.mono ?_); rintro e w1 ⟨rfl, m, rfl⟩))
      | (go_at_call 41; ((with_reducible refine (VC.out _ dB).mono ?_); rintro e w2 ⟨rfl, hb⟩; have HB := Lib.hid (dB.then_ hb); clear hb)))
    go_ret; exact tInt_mk EE.out HB.out
end Go.Proofs.YtpejflgdehioaaaGreatDoor.ItW
namespace Go.Proofs.YtpejflgdehioaaaGreatDoor.ItW
open Go Go.RowKit Go.Shelf Go.Proofs.YtpejflgdehioaaaGreatDoor.NumM Go.Proofs.YtpejflgdehioaaaGreatDoor.LexW Go.Proofs.YtpejflgdehioaaaGreatDoor.LexM Go.Proofs.YtpejflgdehioaaaGreatDoor.ExM Go.Proofs.YtpejflgdehioaaaGreatDoor.ExW Go.Proofs.YtpejflgdehioaaaGreatDoor.ItM
open Go.Proofs.YtpejflgdehioaaaGreatDoor.ClM (Fld)
theorem own_mono {W : World} {B B' e size n : Nat} {v : Value} {xs : List Value} (h : W.ownsRow B e size v n xs) (hB : B' ≤ B) : W.ownsRow B' e size v n xs := by
  obtain ⟨h0, h⟩ := h; refine ⟨h0, h.imp (fun g => g) (fun ⟨g, cap, cur, hv, hg, r⟩ => ⟨g, cap, cur, hv, Nat.le_trans hB hg, r⟩)⟩
theorem own_formN {W : World} {base e size : Nat} {v : Value} {n : Nat} {xs : List Value} (h : W.ownsRow base e size v n xs) : ∃ p cap, v = .slice p n cap := by
  obtain ⟨_, ⟨hv, hn⟩ | ⟨g, cap, cur, hv, _⟩⟩ := h
  · exact ⟨none, 0, by rw [hv, hn]⟩
  · exact ⟨_, _, hv⟩
set_option maxRecDepth 100000 in
set_option maxHeartbeats 16000000 in
theorem ownR_any (x : It) (a4 a7 a8 a9 a10 a11 : Value) (B B' : List ByteArray) (hBB : ∀ s, memB B' s = memB B s) (vi : Value) (N : Nat) (w : World) (h : IV N w a4 a7 a8 a9 a10 a11 x) (hb : StA N w vi B') (hN : N ≤ w.heap.size) (hnd : Nd1 x) :
    Calls Tryz.prog 69 #[iv x.kd x.e.op x.e.n x.e.nm a4 x.nm x.ix a7 a8 a9 a10 a11, vi] w (tRow (ownN B x) w) := by
  have hbfs := h.bfs; have hafs := h.afs; have NC0 : Hid (∀ W, Below w.heap.size w W → Calls Tryz.prog 102 #[xv x.e.op x.e.n x.e.nm a4] W fun x' w' => ∃ v' M2, x' = .returned v' ∧ w'.ownsRow W.heap.size 43 4 v' (M2 : List NdV).length (M2.flatMap ndC) ∧ M2.map NdV.x = pre 1 x.e ∧ Below W.heap.size W w') := (Lib.hid fun W hW => nodesR_any x.e N _ W (h.ex.under (hW.mono hN)) (by have := hW.size; omega) hnd.1); have BC0 : Hid (∀ W (s : ByteArray), Below w.heap.size w W → Calls Tryz.prog 39 #[vi, .string s] W fun e w' => e = .returned (.bool (memB B s)) ∧ W = w') := Lib.hid fun W s hW => by
    have := boundR_any B' vi s N W (hb.under (hW.mono hN)); rw [hBB] at this; exact this
  have HNSZ := Lib.hid (fun y hy => at_names h.ex 1 y hy); have hsz := hnd.1; obtain ⟨kd, o, n, en, p4, k4, c4, nm, ix, p7, k7, c7, p8, k8, c8, p9, k9, c9, p10, k10, c10, p11, k11, c11, ev, hv⟩ := h.open_; have ev2 := ev; simp only [Value.agg.injEq, Array.mk.injEq, List.cons.injEq] at ev2; obtain ⟨-, -, -, -, rfl, -, -, rfl, rfl, rfl, rfl, rfl, -⟩ := ev2; rw [ev]; obtain ⟨e0, e1, e2, e3, e5, e6, l4, l7, l8, l9, l10, l11, -⟩ := hv; obtain ⟨i0, hi, hz0, hz1, hz2⟩ := info_parts infoS; obtain ⟨pi, ci, rfl, _⟩ := hb; obtain ⟨KB, hKB⟩ : ∃ K, B'.length = K := ⟨_, rfl⟩; rw [hKB] at BC0 ⊢; rw [e1, e2, e3] at NC0; have hbfl : x.bf.length = k10 := (by first | exact l10 | exact l10.symm); have hafl : x.af.length = k11 := (by first | exact l11 | exact l11.symm); have hk10 : k10 ≤ 1000 := (by rw [← hbfl]; exact hnd.2.2.1); have hk11 : k11 ≤ 1000 := (by rw [← hafl]; exact hnd.2.2.2); have HN1 := Lib.hid (one_str x.bf); have HN2 := Lib.hid (one_str x.af); have HNMX : Hid (x.nm = nm) := Lib.hid (by first | exact e5 | exact e5.symm); have hkd : x.kd = kd := (by first | exact e0 | exact e0.symm); have F0 := Blk.new w (ics kd o n en (.slice p4 k4 c4) nm ix (.slice p7 k7 c7) (.slice p8 k8 c8) (.slice p9 k9 c9) (.slice p10 k10 c10) (.slice p11 k11 c11)) 55; have hbb := ba w (.cells (ics kd o n en (.slice p4 k4 c4) nm ix (.slice p7 k7 c7) (.slice p8 k8 c8) (.slice p9 k9 c9) (.slice p10 k10 c10) (.slice p11 k11 c11)).toArray 55); have hzz : (w.alloc (.cells (ics kd o n en (.slice p4 k4 c4) nm ix (.slice p7 k7 c7) (.slice p8 k8 c8) (.slice p9 k9 c9) (.slice p10 k10 c10) (.slice p11 k11 c11)).toArray 55)).heap.size = w.heap.size + 1 := World.size_alloc _ _; simp only [List.toArray] at F0 hbb hzz; obtain ⟨W0, hW0⟩ : ∃ W0, w.alloc (.cells #[.int .i64 kd, .int .i64 o, .int .i64 n, .string en, .slice p4 k4 c4, .string nm, .string ix, .slice p7 k7 c7, .slice p8 k8 c8, .slice p9 k9 c9, .slice p10 k10 c10, .slice p11 k11 c11] 55) = W0 := ⟨_, rfl⟩; rw [hW0] at F0 hbb hzz; have HF := Lib.hid F0; have HX := Lib.hid hbb; have HZ := Lib.hid hzz; have d0 := F0.c 0 _ rfl; have d1 := F0.c 1 _ rfl; have d2 := F0.c 2 _ rfl; have d3 := F0.c 3 _ rfl; have d4 := F0.c 4 _ rfl; have d5 := F0.c 5 _ rfl; have d10 := F0.c 10 _ rfl; have d11 := F0.c 11 _ rfl; have HNEW : Hid ((W0.alloc (.cells #[.string nm] 9)).ownsRow w.heap.size 9 1 (.slice (some ⟨W0.heap.size, 0, none⟩) 1 1) 1 [.string nm]) := Lib.hid ⟨rfl, .inr ⟨W0.heap.size, 1, #[.string nm], rfl, by rw [hzz]; omega, heap_alloc_new W0 _, Nat.le_refl _, by decide, rfl, rfl⟩⟩; have NC : Hid (∀ W, Below w.heap.size w W → Calls Tryz.prog 102 #[xv o n en (.slice p4 k4 c4)] W fun x' w' => ∃ v' M2, x' = .returned v' ∧ w'.ownsRow W.heap.size 43 4 v' (M2 : List NdV).length (M2.flatMap ndC) ∧ M2.map NdV.x = pre 1 x.e ∧ Below W.heap.size W w') := NC0; have BC := BC0; clear F0 hbb hzz NC0 BC0 h ev e0 e1 e2 e3 e5 e6 l4 l7 l8 l9 l10 l11 hnd hKB hBB
  go_enter Tryz.func69, Tryz.ntmps69
  by_cases h35 : kd = 3 ∨ kd = 5
  · have HL : Hid (ownN B x = [nm]) := Lib.hid (by unfold ownN; rw [if_neg (by omega), if_pos (by omega), HNMX.out]); clear hbfs hafs hbfl hafl; rcases h35 with rfl | rfl
    all_goals
      go_wp2; go_ret; refine ⟨_, rfl, ?_, HX.out.then_ (ba W0 (.cells #[.string nm] 9))⟩; rw [HL.out]; exact HNEW.out
  · have h3 : kd ≠ 3 := (fun e => h35 (.inl e)); have h5 : kd ≠ 5 := (fun e => h35 (.inr e)); have g3 : (kd == 3) = false := (by rw [beq_eq_false_iff_ne]; exact h3); have g5 : (kd == 5) = false := (by rw [beq_eq_false_iff_ne]; exact h5); clear h35; by_cases h6 : kd = 6
    · subst h6
      · have HL : Hid (ownN B x = x.bf ++ x.af) := Lib.hid (by unfold ownN; rw [if_neg (by omega), if_neg (by omega), if_pos (by omega)]); clear h3 h5 g3 g5 hkd; cases p10 with
        | none =>
          obtain ⟨ka0, kb0⟩ := hbfs.none_len; subst ka0; cases p11 with
          | none =>
            obtain ⟨kc0, kd0⟩ := hafs.none_len; subst kc0; have HBFL := Lib.hid hbfl; have HAFL := Lib.hid hafl; have HB0 := Lib.hid kb0; have HC0 := Lib.hid kd0; clear hbfs hafs hbfl hafl kb0 kd0; have RNG : Hid (∀ (c : Nat) (ty : TypeId), (Builtin.append_ #[27, 27] ty #[.slice none 0 0, .slice none 0 c]).run Tryz.prog W0 = .ok (.slice none 0 0) W0) := Lib.hid (fun c ty => run_append_nil 27 ty w.heap.size 9 i0 Tryz.underlying27 hi (by rw [hz1]; exact World.ownsRow_nil _ _ _ _)); go_wp2_with (at_builtin; go_loud (refine wpList_append_run rfl _ _ 27 27 rfl _ _ rfl rfl _ _ (RNG.out _) ?_))
            go_ret; refine ⟨_, rfl, ?_, HX.out⟩; rw [HL.out, HB0.out, HC0.out]; exact World.ownsRow_nil _ _ _ _
          | some adb =>
            have HNC := Lib.hid hafs.news.2; have HBFL := Lib.hid hbfl; have HAFL := Lib.hid hafl; have HB0 := Lib.hid kb0; clear hbfs hafs hbfl hafl kb0; have RNG : Hid (∀ (c : Nat) (ty : TypeId), (Builtin.append_ #[27, 27] ty #[.slice none 0 0, .slice none 0 c]).run Tryz.prog W0 = .ok (.slice none 0 0) W0) := Lib.hid (fun c ty => run_append_nil 27 ty w.heap.size 9 i0 Tryz.underlying27 hi (by rw [hz1]; exact World.ownsRow_nil _ _ _ _)); go_wp2_with (first
              | (at_builtin; (refine wpList_append_own _ rfl _ _ 27 rfl w.heap.size 9 i0 (.string ⟨#[]⟩) 1 16 Tryz.underlying27 hi hz0 hz1 hz2 rfl (by decide) (.slice none 0 0) 0 [] rfl (World.ownsRow_nil _ _ _ _) adb k11 c11 (x.af.map Value.string) rfl (by rw [List.length_map, HAFL.out, Nat.mul_one]) (HNC.out _ (HX.out.mono hN)) HN2.out (by unfold maxLen; omega) (by omega) (by rw [HZ.out]; omega) ?_); intro v' w3 hown hgrow _; have HOWN := Lib.hid hown; have HGR := Lib.hid hgrow; clear hown hgrow)
              | (at_builtin; go_loud (refine wpList_append_run rfl _ _ 27 27 rfl _ _ rfl rfl _ _ (RNG.out _) ?_)))
            go_ret; refine ⟨_, rfl, ?_, HX.out.grown HGR.out (by rw [HZ.out]; omega) (fun k e => by simp [Value.ownBlock] at e)⟩; have := HOWN.out
            (try rw [Nat.zero_add] at this)
            (try rw [List.nil_append] at this)
            rw [HL.out, HB0.out, List.nil_append, HAFL.out]; exact this
        | some ada =>
          have hnb := hbfs.news.2; have HNB := Lib.hid hnb; cases p11 with
          | none =>
            obtain ⟨kc0, kd0⟩ := hafs.none_len; subst kc0; have HBFL := Lib.hid hbfl; have HAFL := Lib.hid hafl; have HC0 := Lib.hid kd0; clear hbfs hafs hbfl hafl hnb kd0; go_wp2_with (at_builtin; (refine wpList_append_own _ rfl _ _ 27 rfl w.heap.size 9 i0 (.string ⟨#[]⟩) 1 16 Tryz.underlying27 hi hz0 hz1 hz2 rfl (by decide) (.slice none 0 0) 0 [] rfl (World.ownsRow_nil _ _ _ _) ada k10 c10 (x.bf.map Value.string) rfl (by rw [List.length_map, HBFL.out, Nat.mul_one]) (HNB.out _ (HX.out.mono hN)) HN1.out (by unfold maxLen; omega) (by omega) (by rw [HZ.out]; omega) ?_))
            intro v' w3 hown hgrow _; have HOWN := Lib.hid hown; have HGR := Lib.hid hgrow; clear hown hgrow; have HXO := HX; have HX : Hid (Below w.heap.size w w3) := Lib.hid (HX.out.grown HGR.out (by rw [HZ.out]; omega) (fun k e => by simp [Value.ownBlock] at e)); have F2 := Lib.hid (blk_eq HF.out (HGR.out.block w.heap.size (by rw [HZ.out]; omega) (by simp [Value.ownBlock]))); clear d0 d10 d11; have d11 := F2.out.c 11 _ rfl; have how : w3.ownsRow w.heap.size 9 1 v' k10 (x.bf.map Value.string) := by
              have := HOWN.out
              (try rw [Nat.zero_add] at this)
              (try rw [List.nil_append] at this)
              exact this
            obtain ⟨qv, cv, rfl⟩ := own_formN how; have RN2 : Hid (∀ ty, (Builtin.append_ #[27, 27] ty #[.slice qv k10 cv, .slice none 0 c11]).run Tryz.prog w3 = .ok (.slice qv k10 cv) w3) := Lib.hid (fun ty => run_append_nil 27 ty w.heap.size 9 i0 Tryz.underlying27 hi (by rw [hz1]; exact how)); have HO1 := Lib.hid how; clear how HOWN; go_wp2_with (at_builtin; go_loud (refine wpList_append_run rfl _ _ 27 27 rfl _ _ rfl rfl _ _ RN2.out ?_))
            go_ret; refine ⟨_, rfl, ?_, HX.out⟩; rw [HL.out, HC0.out, List.append_nil, HBFL.out]; exact HO1.out
          | some adb =>
            have HNC := Lib.hid hafs.news.2; have HBFL := Lib.hid hbfl; have HAFL := Lib.hid hafl; clear hbfs hafs hbfl hafl hnb; go_wp2_with (at_builtin; (refine wpList_append_own _ rfl _ _ 27 rfl w.heap.size 9 i0 (.string ⟨#[]⟩) 1 16 Tryz.underlying27 hi hz0 hz1 hz2 rfl (by decide) (.slice none 0 0) 0 [] rfl (World.ownsRow_nil _ _ _ _) ada k10 c10 (x.bf.map Value.string) rfl (by rw [List.length_map, HBFL.out, Nat.mul_one]) (HNB.out _ (HX.out.mono hN)) HN1.out (by unfold maxLen; omega) (by omega) (by rw [HZ.out]; omega) ?_))
            intro v' w3 hown hgrow _; have HOWN := Lib.hid hown; have HGR := Lib.hid hgrow; clear hown hgrow; have HXO := HX; have HX : Hid (Below w.heap.size w w3) := Lib.hid (HX.out.grown HGR.out (by rw [HZ.out]; omega) (fun k e => by simp [Value.ownBlock] at e)); have F2 := Lib.hid (blk_eq HF.out (HGR.out.block w.heap.size (by rw [HZ.out]; omega) (by simp [Value.ownBlock]))); clear d0 d10 d11; have d11 := F2.out.c 11 _ rfl; have how : w3.ownsRow w.heap.size 9 1 v' k10 (x.bf.map Value.string) := by
              have := HOWN.out
              (try rw [Nat.zero_add] at this)
              (try rw [List.nil_append] at this)
              exact this
            obtain ⟨qv, cv, rfl⟩ := own_formN how; have HO1 := Lib.hid how; have HOW := Lib.hid (own_lt how); clear how HOWN HGR; go_wp2_with (at_builtin; go_loud (refine wpList_append_own _ rfl _ _ 27 rfl w.heap.size 9 i0 (.string ⟨#[]⟩) 1 16 Tryz.underlying27 hi hz0 hz1 hz2 rfl (by decide) (.slice qv k10 cv) k10 (x.bf.map Value.string) rfl HO1.out adb k11 c11 (x.af.map Value.string) rfl (by rw [List.length_map, HAFL.out, Nat.mul_one]) (HNC.out _ (HX.out.mono hN)) HN2.out (by unfold maxLen; omega) (by omega) (by have := HX.out.size; omega) ?_); intro v5 w5 hown hgrow _; have HOWN := Lib.hid hown; have HGR := Lib.hid hgrow; clear hown hgrow)
            go_wp2; go_ret; refine ⟨_, rfl, ?_, HX.out.grown HGR.out (by have := HX.out.size; omega) (fun k e => (HOW.out k e).1)⟩; rw [HL.out, List.length_append, List.map_append, HBFL.out, HAFL.out]; exact HOWN.out
    · have g6 : (kd == 6) = false := (by rw [beq_eq_false_iff_ne]; exact h6); by_cases h124 : kd = 1 ∨ kd = 2 ∨ kd = 4
      · have HL : Hid (ownN B x = exN B x.e) := Lib.hid (by unfold ownN; rw [if_pos (by omega)]); have AC : Hid (∀ W, Calls Tryz.prog 50 #[.int .i64 kd] W fun e w' => e = .returned (.bool true) ∧ W = w') := Lib.hid fun W => by
          have := asksR_any kd W; have e : askK kd = true := (by unfold askK; rcases h124 with rfl | rfl | rfl <;> rfl); rw [e] at this; exact this
        clear h124 hbfs hafs hbfl hafl; go_wp2_with (first
          | (go_at_call 50; ((with_reducible refine (AC.out _).mono ?_); rintro e wa ⟨rfl, rfl⟩))
          | (go_at_call 102; ((with_reducible refine (NC.out _ HX.out).mono ?_); rintro e w1 ⟨v1, M, rfl, ho, hmm, hb⟩; obtain ⟨q1, k1, rfl, hrow⟩ := row4 ho; have HM := Lib.hid hmm; have HRW := Lib.hid hrow; have HB3 := Lib.hid (HX.out.then_ hb); clear ho hmm hb hrow d0 d1 d2 d3 d4)))
        obtain ⟨Q, hQ⟩ : ∃ Q, M.length = Q := ⟨_, rfl⟩; have HQ := Lib.hid hQ; have hq : Q ≤ 10000 := (by have := congrArg List.length HM.out; rw [List.length_map, pre_len] at this; omega); rw [hQ]; have HNN : Hid (∀ y ∈ M, y.x.nm.size ≤ 140737488351232) := (Lib.hid fun y hy => HNSZ.out _ (by rw [← HM.out]; exact List.mem_map_of_mem hy)); obtain ⟨NM, hNM⟩ : ∃ NM : Nat → List ByteArray, NM = fun j => ((M.take j).map NdV.x).flatMap (nodN B) := ⟨_, rfl⟩
        have HN0 : Hid (NM 0 = []) := Lib.hid (by rw [hNM]; rfl); have HNE : Hid (NM Q = exN B x.e) := Lib.hid (by
          rw [hNM]; show ((M.take Q).map NdV.x).flatMap (nodN B) = exN B x.e; rw [List.take_of_length_le (by omega), HM.out]; rfl)
        have HNS : Hid (∀ j y, M[j]? = some y → NM (j + 1) = NM j ++ nodN B y.x) := Lib.hid fun j y hy => by
          rw [hNM]; show ((M.take (j + 1)).map NdV.x).flatMap (nodN B) = ((M.take j).map NdV.x).flatMap (nodN B) ++ nodN B y.x; obtain ⟨hjl, he⟩ := List.getElem?_eq_some_iff.1 hy; rw [List.take_succ_eq_append_getElem hjl, List.map_append, List.flatMap_append, he]; simp
        clear hNM hQ HM HNSZ; have HNM0 : Hid (w1.ownsRow w1.heap.size 9 1 (.slice none 0 0) 0 ((NM 0).map Value.string) ∧ (NM 0).length = 0) := Lib.hid (by rw [HN0.out]; exact ⟨World.ownsRow_nil _ _ _ _, rfl⟩); have H01 := HB3; go_loopw [5, 7] (fun t i wr => ∃ (j m : Nat) (po : Option Addr) (co : Nat), j ≤ Q ∧ m ≤ j ∧ i = .int .i64 j ∧ t = .slice po m co ∧ Hid (wr.ownsRow w1.heap.size 9 1 (.slice po m co) m ((NM j).map Value.string) ∧ (NM j).length = m) ∧ Hid (Below w.heap.size w wr) ∧ Hid (Below w1.heap.size w1 wr)) (fun _ i _ => Q - (intOf i).toNat)
        case atStart => exact ⟨0, 0, none, 0, Nat.zero_le _, Nat.zero_le _, rfl, rfl, HNM0, HB3, Lib.hid (Below.refl _ _)⟩
        case round =>
          obtain ⟨j, m, po, co, hj, hm1, rfl, rfl, AW, BW, B1W⟩ := hrel; by_cases hlt : j < Q
          · obtain ⟨y, hy⟩ : ∃ y, M[j]? = some y := ⟨_, List.getElem?_eq_getElem (by rw [HQ.out]; exact hlt)⟩; obtain ⟨g, rfl, hcell⟩ := HRW.out (by rw [HQ.out]; omega); obtain ⟨q0, _, q2, _⟩ := hcell j y hy; have f0 := (B1W.out.cell (p := ⟨g, j * 4, none⟩) (cell_lt q0)).trans q0; have f2 := (B1W.out.cell (p := ⟨g, j * 4 + 2, none⟩) (cell_lt q2)).trans q2; have hys := HNN.out y (List.mem_of_getElem? hy); have HNM := Lib.hid (HNS.out j y hy); have HNOD : Hid (nodN B y.x = if (isAr y.x.op || (isVr y.x.op && !memB B y.x.nm)) = true then [y.x.nm] else []) := Lib.hid rfl; obtain ⟨L0, hL0⟩ : ∃ L, NM j = L := ⟨_, rfl⟩; have HL0 := Lib.hid hL0; rw [hL0] at AW; clear hcell q0 q2 hy hL0; generalize y.x.op = yo at *
            generalize y.x.nm = ys at *
            have hslt := B1W.out.size; by_cases o2 : yo = 2
            · subst o2; cases hm : memB B ys
              · have BC2 : Hid (∀ W, Below w.heap.size w W → Calls Tryz.prog 39 #[.slice pi KB ci, .string ys] W fun e w' => e = .returned (.bool false) ∧ W = w') := (Lib.hid fun W hW => hm ▸ BC.out W ys hW); have HST : Hid (NM (j + 1) = NM j ++ [ys]) := Lib.hid (by rw [HNM.out, HNOD.out]; simp [isVr, isAr, hm]); have HROW : Hid ((wr.alloc (.cells #[.string ys] 9)).ownsRow w1.heap.size 9 1 (.slice po m co) m (L0.map Value.string)) := Lib.hid (own_later AW.out.1 (ba wr _)); have HOW := Lib.hid (own_lt AW.out.1); clear HNOD; go_wp2_with (first
                  | (go_at_call 39; ((with_reducible refine (BC2.out _ BW.out).mono ?_); rintro e w2 ⟨rfl, rfl⟩))
                  | (at_builtin; go_loud (refine wpList_append_own _ rfl _ _ 27 rfl w1.heap.size 9 i0 (.string ⟨#[]⟩) 1 16 Tryz.underlying27 hi hz0 hz1 hz2 rfl (by decide) _ m (L0.map Value.string) rfl HROW.out ⟨wr.heap.size, 0, none⟩ 1 1 [.string ys] rfl rfl (by exact cell_one_at rfl _ _) (by simp [Value.oneCell']) (by unfold maxLen; omega) (by omega) (by have := B1W.out.size; rw [World.size_alloc]; omega) ?_); intro v' w3 hown hgrow _; have HOWN := Lib.hid hown; have HGR := Lib.hid hgrow; clear hown hgrow))
                have hb3 : Below w1.heap.size w1 w3 := (B1W.out.then_ (ba wr (.cells #[.string ys] 9))).grown HGR.out (by have := B1W.out.size; rw [World.size_alloc]; omega) (fun k e => (HOW.out k e).1); have HB13 := Lib.hid hb3; obtain ⟨qv, cv, rfl⟩ := own_formN HOWN.out; have HO3 : Hid (w3.ownsRow w1.heap.size 9 1 (.slice qv (m + 1) cv) (m + 1) ((NM (j + 1)).map Value.string) ∧ (NM (j + 1)).length = m + 1) := Lib.hid (by
                  refine ⟨?_, ?_⟩
                  · rw [HST.out, HL0.out, List.map_append]; exact HOWN.out
                  · rw [HST.out, HL0.out, List.length_append, AW.out.2]; rfl)
                have HB3 := Lib.hid (H01.out.then_ hb3); clear hb3 HGR HROW HOWN; go_roundw
                case rel => exact ⟨j + 1, m + 1, qv, cv, by omega, by omega, by go_num, by go_num, HO3, HB3, HB13⟩
                case measure => simp [intOf]; omega
              · have BC2 : Hid (∀ W, Below w.heap.size w W → Calls Tryz.prog 39 #[.slice pi KB ci, .string ys] W fun e w' => e = .returned (.bool true) ∧ W = w') := (Lib.hid fun W hW => hm ▸ BC.out W ys hW); have HST : Hid ((wr.ownsRow w1.heap.size 9 1 (.slice po m co) m ((NM (j + 1)).map Value.string)) ∧ (NM (j + 1)).length = m) := Lib.hid (by
                  have e : NM (j + 1) = NM j := (by rw [HNM.out, HNOD.out]; simp [isVr, isAr, hm]); rw [e, HL0.out]; exact AW.out)
                clear HNOD; go_wp2_with (go_at_call 39; ((with_reducible refine (BC2.out _ BW.out).mono ?_); rintro e w2 ⟨rfl, rfl⟩))
                go_roundw
                case rel => exact ⟨j + 1, m, po, co, by omega, by omega, by go_num, rfl, HST, BW, B1W⟩
                case measure => simp [intOf]; omega
            · have g2 : (yo == 2) = false := (by rw [beq_eq_false_iff_ne]; exact o2); by_cases o3 : yo = 3
              · subst o3; have HST : Hid (NM (j + 1) = NM j ++ [ys]) := Lib.hid (by rw [HNM.out, HNOD.out]; rfl); have HROW : Hid ((wr.alloc (.cells #[.string ys] 9)).ownsRow w1.heap.size 9 1 (.slice po m co) m (L0.map Value.string)) := Lib.hid (own_later AW.out.1 (ba wr _)); have HOW := Lib.hid (own_lt AW.out.1); clear HNOD; go_wp2_with (first
                  | (at_builtin; go_loud (refine wpList_append_own _ rfl _ _ 27 rfl w1.heap.size 9 i0 (.string ⟨#[]⟩) 1 16 Tryz.underlying27 hi hz0 hz1 hz2 rfl (by decide) _ m (L0.map Value.string) rfl HROW.out ⟨wr.heap.size, 0, none⟩ 1 1 [.string ys] rfl rfl (by exact cell_one_at rfl _ _) (by simp [Value.oneCell']) (by unfold maxLen; omega) (by omega) (by have := B1W.out.size; rw [World.size_alloc]; omega) ?_); intro v' w3 hown hgrow _; have HOWN := Lib.hid hown; have HGR := Lib.hid hgrow; clear hown hgrow))
                have hb3 : Below w1.heap.size w1 w3 := (B1W.out.then_ (ba wr (.cells #[.string ys] 9))).grown HGR.out (by have := B1W.out.size; rw [World.size_alloc]; omega) (fun k e => (HOW.out k e).1); have HB13 := Lib.hid hb3; obtain ⟨qv, cv, rfl⟩ := own_formN HOWN.out; have HO3 : Hid (w3.ownsRow w1.heap.size 9 1 (.slice qv (m + 1) cv) (m + 1) ((NM (j + 1)).map Value.string) ∧ (NM (j + 1)).length = m + 1) := Lib.hid (by
                  refine ⟨?_, ?_⟩
                  · rw [HST.out, HL0.out, List.map_append]; exact HOWN.out
                  · rw [HST.out, HL0.out, List.length_append, AW.out.2]; rfl)
                have HB3 := Lib.hid (H01.out.then_ hb3); clear hb3 HGR HROW HOWN; go_roundw
                case rel => exact ⟨j + 1, m + 1, qv, cv, by omega, by omega, by go_num, by go_num, HO3, HB3, HB13⟩
                case measure => simp [intOf]; omega
              · have g3 : (yo == 3) = false := (by rw [beq_eq_false_iff_ne]; exact o3); by_cases o24 : yo = 24
                · subst o24; have HST : Hid (NM (j + 1) = NM j ++ [ys]) := Lib.hid (by rw [HNM.out, HNOD.out]; rfl); have HROW : Hid ((wr.alloc (.cells #[.string ys] 9)).ownsRow w1.heap.size 9 1 (.slice po m co) m (L0.map Value.string)) := Lib.hid (own_later AW.out.1 (ba wr _)); have HOW := Lib.hid (own_lt AW.out.1); clear HNOD; go_wp2_with (first
                    | (at_builtin; go_loud (refine wpList_append_own _ rfl _ _ 27 rfl w1.heap.size 9 i0 (.string ⟨#[]⟩) 1 16 Tryz.underlying27 hi hz0 hz1 hz2 rfl (by decide) _ m (L0.map Value.string) rfl HROW.out ⟨wr.heap.size, 0, none⟩ 1 1 [.string ys] rfl rfl (by exact cell_one_at rfl _ _) (by simp [Value.oneCell']) (by unfold maxLen; omega) (by omega) (by have := B1W.out.size; rw [World.size_alloc]; omega) ?_); intro v' w3 hown hgrow _; have HOWN := Lib.hid hown; have HGR := Lib.hid hgrow; clear hown hgrow))
                  have hb3 : Below w1.heap.size w1 w3 := (B1W.out.then_ (ba wr (.cells #[.string ys] 9))).grown HGR.out (by have := B1W.out.size; rw [World.size_alloc]; omega) (fun k e => (HOW.out k e).1); have HB13 := Lib.hid hb3; obtain ⟨qv, cv, rfl⟩ := own_formN HOWN.out; have HO3 : Hid (w3.ownsRow w1.heap.size 9 1 (.slice qv (m + 1) cv) (m + 1) ((NM (j + 1)).map Value.string) ∧ (NM (j + 1)).length = m + 1) := Lib.hid (by
                    refine ⟨?_, ?_⟩
                    · rw [HST.out, HL0.out, List.map_append]; exact HOWN.out
                    · rw [HST.out, HL0.out, List.length_append, AW.out.2]; rfl)
                  have HB3 := Lib.hid (H01.out.then_ hb3); clear hb3 HGR HROW HOWN; go_roundw
                  case rel => exact ⟨j + 1, m + 1, qv, cv, by omega, by omega, by go_num, by go_num, HO3, HB3, HB13⟩
                  case measure => simp [intOf]; omega
                · have g24 : (yo == 24) = false := (by rw [beq_eq_false_iff_ne]; exact o24); have HST : Hid ((wr.ownsRow w1.heap.size 9 1 (.slice po m co) m ((NM (j + 1)).map Value.string)) ∧ (NM (j + 1)).length = m) := Lib.hid (by
                    have e : NM (j + 1) = NM j := (by rw [HNM.out, HNOD.out]; simp [isVr, isAr, o2, o3, o24]); rw [e, HL0.out]; exact AW.out)
                  clear HNOD; go_wp2; go_roundw
                  case rel => exact ⟨j + 1, m, po, co, by omega, by omega, by go_num, rfl, HST, BW, B1W⟩
                  case measure => simp [intOf]; omega
          · have HE : Hid (NM j = exN B x.e) := Lib.hid (by rw [show j = Q by omega]; exact HNE.out); go_wp2; go_ret; refine ⟨_, rfl, ?_, BW.out⟩; have hq := AW.out; rw [HE.out] at hq; rw [HL.out, hq.2]; exact own_mono hq.1 H01.out.size
      · have HL : Hid (ownN B x = []) := Lib.hid (by unfold ownN; rw [if_neg (by omega), if_neg (by omega), if_neg (by omega)]); have AC : Hid (∀ W, Calls Tryz.prog 50 #[.int .i64 kd] W fun e w' => e = .returned (.bool false) ∧ W = w') := Lib.hid fun W => by
          have := asksR_any kd W; have e : askK kd = false := by
            cases hh : askK kd with
            | false => rfl
            | true => exact absurd (by unfold askK at hh; simp at hh; omega) h124
          rw [e] at this; exact this
        clear h124 hbfs hafs hbfl hafl; go_wp2_with (go_at_call 50; ((with_reducible refine (AC.out _).mono ?_); rintro e wa ⟨rfl, rfl⟩))
        go_ret; refine ⟨_, rfl, ?_, HX.out⟩; rw [HL.out]; exact World.ownsRow_nil _ _ _ _
end Go.Proofs.YtpejflgdehioaaaGreatDoor.ItW
namespace Go.Proofs.YtpejflgdehioaaaGreatDoor.ItW
open Go Go.RowKit Go.Proofs.YtpejflgdehioaaaGreatDoor.NumM Go.Proofs.YtpejflgdehioaaaGreatDoor.LexW Go.Proofs.YtpejflgdehioaaaGreatDoor.LexM Go.Proofs.YtpejflgdehioaaaGreatDoor.ExM Go.Proofs.YtpejflgdehioaaaGreatDoor.ExW Go.Proofs.YtpejflgdehioaaaGreatDoor.ItM
attribute [local go_sem ↓] Go.wp_at_zero Go.wp_at_succ
def alN (d : Nat) (B : List ByteArray) (l : List It) : List ByteArray := (wks d B l).flatMap ownP
theorem alN_nil (d : Nat) (B : List ByteArray) : alN d B [] = [] := by unfold alN; rw [wks_nil]; rfl
theorem alN_append (d : Nat) (B : List ByteArray) (a b : List It) : alN d B (a ++ b) = alN d B a ++ alN d B b := by unfold alN; rw [wks_append, List.flatMap_append]
theorem alN_take {d j : Nat} {B : List ByteArray} {l : List It} {a : It} (h : l[j]? = some a) : alN d B (l.take (j + 1)) = alN d B (l.take j) ++ (ownN B a ++ (alN (d + 1) (inn a.kd a.ix B) a.it ++ alN (d + 1) B a.el)) := by
  unfold alN; rw [wks_take h, List.flatMap_append, wk_eq, List.flatMap_cons, List.flatMap_append]; rfl
theorem flatP_len {l : List Pl} (h : ∀ p ∈ l, Nd1 p.x) : (l.flatMap ownP).length ≤ 20000 * l.length := by
  induction l with
  | nil => simp
  | cons a r ih =>
    rw [List.flatMap_cons, List.length_append, List.length_cons]; have h1 := (ih fun p hp => h p (List.mem_cons_of_mem _ hp)); have h2 : (ownP a).length ≤ 20000 := own_len_le (h a List.mem_cons_self) a.B; omega
theorem alN_len {d : Nat} {B : List ByteArray} {l : List It} (h : RsL l) : (alN d B l).length ≤ 20000 * iszs l := by
  have := flatP_len (rs_wks l d B h); rw [wks_len] at this; exact this
theorem alN_part {d j : Nat} {B : List ByteArray} {l : List It} (h : RsL l) : (alN d B (l.take j)).length ≤ 20000 * iszs l := by
  have h1 := alN_len (d := d) (B := B) h; have h2 := alN_append d B (l.take j) (l.drop j); rw [List.take_append_drop] at h2; rw [h2, List.length_append] at h1; omega
theorem run_append_rows {w : World} (ty : TypeId) {base nb : Nat} {i : TypeInfo} (hi : Tryz.prog.info? 9 = some i) (hz : i.zero = some (.string ⟨#[]⟩)) (hs : i.size = 1) (hb : i.bytes = 16) {v x : Value} {A D : List ByteArray} (hv : w.ownsRow base 9 1 v A.length (A.map Value.string)) (hx : w.ownsRow nb 9 1 x D.length (D.map Value.string)) (hl : A.length + D.length ≤ 1000000000) (hbase : base ≤ w.heap.size) :
    ∃ v' w', (Builtin.append_ #[27, 27] ty #[v, x]).run Tryz.prog w = .ok v' w' ∧ w'.ownsRow base 9 1 v' (A ++ D).length ((A ++ D).map Value.string) ∧ w.grownBy w' v.ownBlock := by
  rcases hx.2 with ⟨rfl, h0⟩ | ⟨g, cap, cur, rfl, _⟩
  · have hD : D = [] := List.length_eq_zero_iff.1 h0; subst hD; refine ⟨v, w, ?_, by rw [List.append_nil]; exact hv, ⟨rfl, rfl, rfl, Nat.le_refl _, fun _ _ _ => rfl⟩⟩; exact run_append_nil 27 ty base 9 i Tryz.underlying27 hi (by rw [hs]; exact hv)
  · obtain ⟨v', w', hr, ho, hg, _⟩ := run_append_own_at (P := Tryz.prog) w base 27 ty 9 i (.string ⟨#[]⟩) 1 16 Tryz.underlying27 hi hz hs hb rfl (by decide) v A.length (A.map Value.string) hv ⟨g, 0, none⟩ D.length cap (D.map Value.string) (by simp) (hx.cells rfl) (one_str D) (by unfold maxLen; omega) (by omega) hbase; exact ⟨v', w', hr, by rw [List.length_append, List.map_append]; exact ho, hg⟩
theorem wp_append_rows {w : World} {o : Oper} {a : Act} {K : Act → World → Prop} {Q : Exit → Act → World → Prop} (s x : Operand)
    (ho : o.op = .call { callee := .builtin .append, args := #[s, x], argTypes := #[27, 27] })
    {base nb : Nat} {i : TypeInfo} (hi : Tryz.prog.info? 9 = some i) (hz : i.zero = some (.string ⟨#[]⟩)) (hs : i.size = 1) (hb : i.bytes = 16) (v xv : Value) (A D : List ByteArray) (hsv : a.eval s = v) (hxv : a.eval x = xv) (hv : w.ownsRow base 9 1 v A.length (A.map Value.string)) (hx : w.ownsRow nb 9 1 xv D.length (D.map Value.string)) (hl : A.length + D.length ≤ 1000000000) (hbase : base ≤ w.heap.size)
    (h : ∀ v' w', w'.ownsRow base 9 1 v' (A ++ D).length ((A ++ D).map Value.string) → w.grownBy w' v.ownBlock → K (a.put o.dst v') w') : o.wp Tryz.prog a w K Q := by
  obtain ⟨v', w', hr, h2, h3⟩ := run_append_rows o.type hi hz hs hb hv hx hl hbase; unfold Oper.wp execOp; simp only [ho, resolve, invoke, builtin, Sem.run_bind, Sem.run_pure, Result.andThen_ok, List.map_toArray, List.map_cons, List.map_nil, hsv, hxv, hr]; exact h v' w' h2 h3
theorem wpList_append_rows {w : World} {ops : Array Oper} {rest : List Oper} {o : Oper} {a : Act} {Q : Exit → Act → World → Prop} (hgd : o.guard = none) (s x : Operand)
    (ho : o.op = .call { callee := .builtin .append, args := #[s, x], argTypes := #[27, 27] })
    {base nb : Nat} {i : TypeInfo} (hi : Tryz.prog.info? 9 = some i) (hz : i.zero = some (.string ⟨#[]⟩)) (hs : i.size = 1) (hb : i.bytes = 16) (v xv : Value) (A D : List ByteArray) (hsv : a.eval s = v) (hxv : a.eval x = xv) (hv : w.ownsRow base 9 1 v A.length (A.map Value.string)) (hx : w.ownsRow nb 9 1 xv D.length (D.map Value.string)) (hl : A.length + D.length ≤ 1000000000) (hbase : base ≤ w.heap.size)
    (h : ∀ v' w', w'.ownsRow base 9 1 v' (A ++ D).length ((A ++ D).map Value.string) → w.grownBy w' v.ownBlock → wpList Tryz.prog ops Q rest (a.put o.dst v') w') : wpList Tryz.prog ops Q (o :: rest) a w :=
  wpList_plain hgd fun _ hK => wp_append_rows s x ho hi hz hs hb v xv A D hsv hxv hv hx hl hbase fun v' w' h2 h3 => hK _ _ (h v' w' h2 h3)
theorem step_append_rows {w : World} {ops : Array Oper} {o : Oper} {a : Act} {K : Act → World → Prop} {Q : Exit → Act → World → Prop} {E : Prop} (hgd : o.guard = none) (s x : Operand)
    (ho : o.op = .call { callee := .builtin .append, args := #[s, x], argTypes := #[27, 27] })
    {base nb : Nat} {i : TypeInfo} (hi : Tryz.prog.info? 9 = some i) (hz : i.zero = some (.string ⟨#[]⟩)) (hs : i.size = 1) (hb : i.bytes = 16) (v xv : Value) (A D : List ByteArray) (hsv : a.eval s = v) (hxv : a.eval x = xv) (hv : w.ownsRow base 9 1 v A.length (A.map Value.string)) (hx : w.ownsRow nb 9 1 xv D.length (D.map Value.string)) (hl : A.length + D.length ≤ 1000000000) (hbase : base ≤ w.heap.size)
    (h : ∀ v' w', w'.ownsRow base 9 1 v' (A ++ D).length ((A ++ D).map Value.string) → w.grownBy w' v.ownBlock → K (a.put o.dst v') w') :
    if Region.wanted o (yielded ops a.tmps) = true then Oper.wp Tryz.prog o a w K Q else E := by
  have hw : Region.wanted o (yielded ops a.tmps) = true := (by simp [Region.wanted, hgd]); rw [if_pos hw]; exact wp_append_rows s x ho hi hz hs hb v xv A D hsv hxv hv hx hl hbase h
abbrev G12 (b o : Nat) (v0 v1 v2 v3 v4 v5 v6 v7 v8 v9 v10 v11 : Value) (W : World) : Prop :=
  W.cell? ⟨b, o, none⟩ = some v0 ∧ W.cell? ⟨b, o + 1, none⟩ = some v1 ∧ W.cell? ⟨b, o + 2, none⟩ = some v2 ∧ W.cell? ⟨b, o + 3, none⟩ = some v3 ∧ W.cell? ⟨b, o + 4, none⟩ = some v4 ∧ W.cell? ⟨b, o + 5, none⟩ = some v5 ∧ W.cell? ⟨b, o + 6, none⟩ = some v6 ∧ W.cell? ⟨b, o + 7, none⟩ = some v7 ∧ W.cell? ⟨b, o + 8, none⟩ = some v8 ∧ W.cell? ⟨b, o + 9, none⟩ = some v9 ∧ W.cell? ⟨b, o + 10, none⟩ = some v10 ∧ W.cell? ⟨b, o + 11, none⟩ = some v11
theorem G12.of {b o : Nat} {v0 v1 v2 v3 v4 v5 v6 v7 v8 v9 v10 v11 : Value} {W W' : World} (h : G12 b o v0 v1 v2 v3 v4 v5 v6 v7 v8 v9 v10 v11 W) (q : ∀ k v, W.cell? ⟨b, k, none⟩ = some v → W'.cell? ⟨b, k, none⟩ = some v) : G12 b o v0 v1 v2 v3 v4 v5 v6 v7 v8 v9 v10 v11 W' := by
  obtain ⟨h0, h1, h2, h3, h4, h5, h6, h7, h8, h9, h10, h11⟩ := h; exact ⟨q _ _ h0, q _ _ h1, q _ _ h2, q _ _ h3, q _ _ h4, q _ _ h5, q _ _ h6, q _ _ h7, q _ _ h8, q _ _ h9, q _ _ h10, q _ _ h11⟩
theorem G12.keep {b o : Nat} {v0 v1 v2 v3 v4 v5 v6 v7 v8 v9 v10 v11 : Value} {W W' : World} (h : G12 b o v0 v1 v2 v3 v4 v5 v6 v7 v8 v9 v10 v11 W) (hb : Below W.heap.size W W') : G12 b o v0 v1 v2 v3 v4 v5 v6 v7 v8 v9 v10 v11 W' := h.of fun k v hv => by rw [hb.cell (World.block_lt_of_cell? W ⟨b, k, none⟩ hv)]; exact hv
theorem G12.grow {b o N n : Nat} {v0 v1 v2 v3 v4 v5 v6 v7 v8 v9 v10 v11 ov : Value} {xs : List Value} {W W' : World} (h : G12 b o v0 v1 v2 v3 v4 v5 v6 v7 v8 v9 v10 v11 W) (hb : b < N) (hg : W.grownBy W' ov.ownBlock) (ho : W.ownsRow N 9 1 ov n xs) : G12 b o v0 v1 v2 v3 v4 v5 v6 v7 v8 v9 v10 v11 W' := h.of fun k v hv => hg.cell hv fun e => by have := (ho.lt b e.symm).1; omega
theorem ownQ_keep {w W W' : World} {v : Value} {A : List ByteArray} (h : Below w.heap.size w W ∧ W.ownsRow w.heap.size 9 1 v A.length (A.map Value.string)) (hb : Below W.heap.size W W') : Below w.heap.size w W' ∧ W'.ownsRow w.heap.size 9 1 v A.length (A.map Value.string) := ⟨h.1.trans (hb.mono h.1.size), own_later h.2 hb⟩
theorem ownQ_grow {w W W' : World} {v v' : Value} {A D : List ByteArray} (h : Below w.heap.size w W ∧ W.ownsRow w.heap.size 9 1 v A.length (A.map Value.string)) (hg : W.grownBy W' v.ownBlock) (ho : W'.ownsRow w.heap.size 9 1 v' D.length (D.map Value.string)) : Below w.heap.size w W' ∧ W'.ownsRow w.heap.size 9 1 v' D.length (D.map Value.string) := ⟨h.1.grown hg h.1.size (fun k e => (h.2.lt k e).1), ho⟩
set_option maxRecDepth 100000 in
set_option maxHeartbeats 16000000 in
theorem allR_any (l : List It) : ∀ (k d : Nat) (B B' : List ByteArray) (v vi : Value) (w : World), dpt k l → (∀ s, memB B' s = memB B s) → B'.length + k ≤ 1000 → ItsA w.heap.size w v l → StA w.heap.size w vi B' → RsL l → iszs l ≤ 10000 →
    Calls Tryz.prog 38 #[v, vi] w (tRow (alN d B l) w) := by
  induction l using its_ind with
  | h l ih =>
    intro k d B B' v vi w hd hBB hBk hx hst hrs hsz; obtain ⟨p, cap, V, rfl, hr⟩ := hx.form; obtain ⟨i0, hi, hz0, hz1, hz2⟩ := info_parts infoS; have hl := hr.hl; have HR := Lib.hid hr; have HIH := Lib.hid ih; have HRS := Lib.hid hrs; have HD := Lib.hid hd; have HBB := Lib.hid hBB; have HST := Lib.hid hst; obtain ⟨pi, ci, rfl, _⟩ := hst; obtain ⟨K, hK⟩ : ∃ K, l.length = K := ⟨_, rfl⟩; have HK := Lib.hid hK; rw [hK] at hl ⊢; have hk47 : K ≤ 140737488351232 := (by omega); have HV0 : Hid (w.ownsRow w.heap.size 9 1 (.slice none 0 0) (alN d B (l.take 0)).length ((alN d B (l.take 0)).map Value.string)) := Lib.hid (by rw [List.take_zero, alN_nil]; exact World.ownsRow_nil _ _ _ _); obtain ⟨KB, hKB⟩ : ∃ KB, B'.length = KB := ⟨_, rfl⟩; have HKB := Lib.hid hKB; rw [hKB]; clear hx hr ih hK hrs hl hd hBB hKB
    go_enter Tryz.func38, Tryz.ntmps38
    go_wp2; go_loopw [5, 6] (fun t i wr => ∃ (j : Nat), j ≤ K ∧ i = .int .i64 j ∧ Hid (Below w.heap.size w wr ∧ wr.ownsRow w.heap.size 9 1 t (alN d B (l.take j)).length ((alN d B (l.take j)).map Value.string))) (fun _ i _ => K - (intOf i).toNat)
    case atStart => exact ⟨0, Nat.zero_le _, rfl, Lib.hid ⟨Below.refl _ _, HV0.out⟩⟩
    case round =>
      obtain ⟨j, hj, rfl, q0⟩ := hrel; by_cases hlt : j < K
      · obtain ⟨a, ha⟩ : ∃ a, l[j]? = some a := ⟨_, List.getElem?_eq_getElem (by rw [HK.out]; exact hlt)⟩; have hmem := List.mem_of_getElem? ha; obtain ⟨b, off, rfl, hb, hcell⟩ := HR.out.hp (by rw [HK.out]; omega); have hva := HR.out.hv j a ha; have hc := (hcell j a ha).kept (low_cells q0.out.1 b · hb); have hrs := (rsI_eq a).1 (rsL_mem.1 HRS.out a hmem); have hia := isz_mem hmem; rw [isz_eq] at hia; have hkd : ∃ k', dpt k' a.it ∧ dpt k' a.el ∧ k' + 1 ≤ k := by
          cases k with
          | zero => have := HD.out; have h0 : l = [] := this; rw [h0] at hmem; cases hmem
          | succ k => exact ⟨k, (HD.out a hmem).1, (HD.out a hmem).2, Nat.le_refl _⟩
        obtain ⟨k', hd1, hd2, hk'⟩ := hkd; obtain ⟨p4, k4, p7, k7, p8, k8, p9, k9, p10, k10, p11, k11, e4, e7, e8, e9, e10, e11⟩ := hva.slices; rw [e4, e7, e8, e9, e10, e11] at hva; obtain ⟨g0, g1, g2, g3, g4, g5, g6, g7, g8, g9, g10, g11⟩ := hc; rw [e4] at g4; rw [e7] at g7; rw [e8] at g8; rw [e9] at g9; rw [e10] at g10; rw [e11] at g11; have hAT := alN_take (d := d) (B := B) ha; have hAL := alN_part (d := d) (B := B) (j := j + 1) HRS.out; rw [hAT, List.length_append, List.length_append, List.length_append] at hAL; have HVA := Lib.hid hva; have s0 : G12 b (off + j * 12) (.int .i64 a.kd) (.int .i64 a.e.op) (.int .i64 a.e.n) (.string a.e.nm) (.slice p4 a.e.args.length k4) (.string a.nm) (.string a.ix) (.slice p7 a.ws.length k7) (.slice p8 a.it.length k8) (.slice p9 a.el.length k9) (.slice p10 a.bf.length k10) (.slice p11 a.af.length k11) wr := ⟨g0, g1, g2, g3, g4, g5, g6, g7, g8, g9, g10, g11⟩; have K1 : Hid (∀ (ov : Value) (A : List ByteArray) (W : World), G12 b (off + j * 12) (.int .i64 a.kd) (.int .i64 a.e.op) (.int .i64 a.e.n) (.string a.e.nm) (.slice p4 a.e.args.length k4) (.string a.nm) (.string a.ix) (.slice p7 a.ws.length k7) (.slice p8 a.it.length k8) (.slice p9 a.el.length k9) (.slice p10 a.bf.length k10) (.slice p11 a.af.length k11) W → Hid (Below w.heap.size w W ∧ W.ownsRow w.heap.size 9 1 ov A.length (A.map Value.string)) → Calls Tryz.prog 69 #[iv a.kd a.e.op a.e.n a.e.nm (.slice p4 a.e.args.length k4) a.nm a.ix (.slice p7 a.ws.length k7) (.slice p8 a.it.length k8) (.slice p9 a.el.length k9) (.slice p10 a.bf.length k10) (.slice p11 a.af.length k11), .slice pi KB ci] W fun e w' => ∃ v', e = .returned v' ∧ G12 b (off + j * 12) (.int .i64 a.kd) (.int .i64 a.e.op) (.int .i64 a.e.n) (.string a.e.nm) (.slice p4 a.e.args.length k4) (.string a.nm) (.string a.ix) (.slice p7 a.ws.length k7) (.slice p8 a.it.length k8) (.slice p9 a.el.length k9) (.slice p10 a.bf.length k10) (.slice p11 a.af.length k11) w' ∧ Hid (Below w.heap.size w w' ∧ w'.ownsRow w.heap.size 9 1 ov A.length (A.map Value.string)) ∧ Hid (w'.ownsRow W.heap.size 9 1 v' (ownN B a).length ((ownN B a).map Value.string))) := Lib.hid fun ov A W hS hQ => by
          have hW := hQ.out.1; have := ownR_any a _ _ _ _ _ _ B B' HBB.out _ W.heap.size W ((HVA.out.under hW).wide hW.size) ((HST.out.under hW).wide hW.size) (Nat.le_refl _) hrs.1; rw [HKB.out] at this; exact this.mono fun e w' ⟨v', h1, h2, h3⟩ => ⟨v', h1, hS.keep h3, Lib.hid (ownQ_keep hQ.out h3), Lib.hid h2⟩
        have KI : Hid (∀ (ov : Value) (A : List ByteArray) (W : World), G12 b (off + j * 12) (.int .i64 a.kd) (.int .i64 a.e.op) (.int .i64 a.e.n) (.string a.e.nm) (.slice p4 a.e.args.length k4) (.string a.nm) (.string a.ix) (.slice p7 a.ws.length k7) (.slice p8 a.it.length k8) (.slice p9 a.el.length k9) (.slice p10 a.bf.length k10) (.slice p11 a.af.length k11) W → Hid (Below w.heap.size w W ∧ W.ownsRow w.heap.size 9 1 ov A.length (A.map Value.string)) → Calls Tryz.prog 70 #[iv a.kd a.e.op a.e.n a.e.nm (.slice p4 a.e.args.length k4) a.nm a.ix (.slice p7 a.ws.length k7) (.slice p8 a.it.length k8) (.slice p9 a.el.length k9) (.slice p10 a.bf.length k10) (.slice p11 a.af.length k11), .slice pi KB ci] W fun e w' => ∃ v', e = .returned v' ∧ G12 b (off + j * 12) (.int .i64 a.kd) (.int .i64 a.e.op) (.int .i64 a.e.n) (.string a.e.nm) (.slice p4 a.e.args.length k4) (.string a.nm) (.string a.ix) (.slice p7 a.ws.length k7) (.slice p8 a.it.length k8) (.slice p9 a.el.length k9) (.slice p10 a.bf.length k10) (.slice p11 a.af.length k11) w' ∧ Hid (Below w.heap.size w w' ∧ w'.ownsRow w.heap.size 9 1 ov A.length (A.map Value.string)) ∧ Hid (StA w'.heap.size w' v' (innR a.kd a.ix B'))) := Lib.hid fun ov A W hS hQ => by
          have hW := hQ.out.1; have hB2 := HKB.out; have := innerR_any a _ _ _ _ _ _ B' _ W.heap.size W ((HVA.out.under hW).wide hW.size) ((HST.out.under hW).wide hW.size) (Nat.le_refl _) (by omega); rw [hB2] at this; refine (this.mono fun e w' ⟨v', h1, h2, h3⟩ => ⟨v', h1, hS.keep h3, Lib.hid (ownQ_keep hQ.out h3), Lib.hid ?_⟩); have hil := innR_len a.kd a.ix B'; obtain ⟨_, _, _, _, _, hsz2, _⟩ := HST.out; exact (own_StS h2 (by omega) (innR_sz hsz2 HVA.out.ix)).toAt fun b hb => hb.2
        have K8 : Hid (∀ (ov : Value) (A : List ByteArray) (W : World) (v : Value), G12 b (off + j * 12) (.int .i64 a.kd) (.int .i64 a.e.op) (.int .i64 a.e.n) (.string a.e.nm) (.slice p4 a.e.args.length k4) (.string a.nm) (.string a.ix) (.slice p7 a.ws.length k7) (.slice p8 a.it.length k8) (.slice p9 a.el.length k9) (.slice p10 a.bf.length k10) (.slice p11 a.af.length k11) W → Hid (Below w.heap.size w W ∧ W.ownsRow w.heap.size 9 1 ov A.length (A.map Value.string)) → Hid (StA W.heap.size W v (innR a.kd a.ix B')) → Calls Tryz.prog 38 #[.slice p8 a.it.length k8, v] W fun e w' => ∃ v', e = .returned v' ∧ G12 b (off + j * 12) (.int .i64 a.kd) (.int .i64 a.e.op) (.int .i64 a.e.n) (.string a.e.nm) (.slice p4 a.e.args.length k4) (.string a.nm) (.string a.ix) (.slice p7 a.ws.length k7) (.slice p8 a.it.length k8) (.slice p9 a.el.length k9) (.slice p10 a.bf.length k10) (.slice p11 a.af.length k11) w' ∧ Hid (Below w.heap.size w w' ∧ w'.ownsRow w.heap.size 9 1 ov A.length (A.map Value.string)) ∧ Hid (w'.ownsRow W.heap.size 9 1 v' (alN (d + 1) (inn a.kd a.ix B) a.it).length ((alN (d + 1) (inn a.kd a.ix B) a.it).map Value.string))) := Lib.hid fun ov A W v hS hQ hv => by
          have hW := hQ.out.1; have hil := innR_len a.kd a.ix B'; have hB2 := HKB.out; exact ((HIH.out a hmem).1 k' (d + 1) _ (innR a.kd a.ix B') _ v W hd1 (fun s => mem_innR a.kd a.ix B B' HBB.out s) (by omega) ((HVA.out.its.under hW).wide hW.size) hv.out hrs.2.1 (by omega)).mono fun e w' ⟨v', h1, h2, h3⟩ => ⟨v', h1, hS.keep h3, Lib.hid (ownQ_keep hQ.out h3), Lib.hid h2⟩
        have K9 : Hid (∀ (ov : Value) (A : List ByteArray) (W : World), G12 b (off + j * 12) (.int .i64 a.kd) (.int .i64 a.e.op) (.int .i64 a.e.n) (.string a.e.nm) (.slice p4 a.e.args.length k4) (.string a.nm) (.string a.ix) (.slice p7 a.ws.length k7) (.slice p8 a.it.length k8) (.slice p9 a.el.length k9) (.slice p10 a.bf.length k10) (.slice p11 a.af.length k11) W → Hid (Below w.heap.size w W ∧ W.ownsRow w.heap.size 9 1 ov A.length (A.map Value.string)) → Calls Tryz.prog 38 #[.slice p9 a.el.length k9, .slice pi KB ci] W fun e w' => ∃ v', e = .returned v' ∧ G12 b (off + j * 12) (.int .i64 a.kd) (.int .i64 a.e.op) (.int .i64 a.e.n) (.string a.e.nm) (.slice p4 a.e.args.length k4) (.string a.nm) (.string a.ix) (.slice p7 a.ws.length k7) (.slice p8 a.it.length k8) (.slice p9 a.el.length k9) (.slice p10 a.bf.length k10) (.slice p11 a.af.length k11) w' ∧ Hid (Below w.heap.size w w' ∧ w'.ownsRow w.heap.size 9 1 ov A.length (A.map Value.string)) ∧ Hid (w'.ownsRow W.heap.size 9 1 v' (alN (d + 1) B a.el).length ((alN (d + 1) B a.el).map Value.string))) := Lib.hid fun ov A W hS hQ => by
          have hW := hQ.out.1; have hB2 := HKB.out; have := ((HIH.out a hmem).2 k' (d + 1) B B' _ _ W hd2 HBB.out (by omega) ((HVA.out.els.under hW).wide hW.size) ((HST.out.under hW).wide hW.size) hrs.2.2 (by omega)); rw [hB2] at this; exact this.mono fun e w' ⟨v', h1, h2, h3⟩ => ⟨v', h1, hS.keep h3, Lib.hid (ownQ_keep hQ.out h3), Lib.hid h2⟩
        have HAT := Lib.hid hAT; clear hcell hva e4 e7 e8 e9 e10 e11 ha hmem hrs HIH HVA hd1 hd2 HR HRS HD hAT HV0; obtain ⟨A0, hA0⟩ : ∃ A, alN d B (l.take j) = A := ⟨_, rfl⟩; rw [hA0] at q0 HAT hAL; obtain ⟨A3, hA3⟩ : ∃ A, alN d B (l.take (j + 1)) = A := ⟨_, rfl⟩; rw [hA3] at HAT; have HA3 := Lib.hid hA3; clear hA0 hA3; generalize ownN B a = O1 at *
        generalize alN (d + 1) (inn a.kd a.ix B) a.it = E1 at *
        generalize alN (d + 1) B a.el = E2 at *
        generalize innR a.kd a.ix B' = BI at *
        go_wp2_with (first
          | (go_at_call 69; go_loud (with_reducible refine (K1.out u5 A0 _ s0 q0).mono ?_); rintro x w1 ⟨v1, rfl, s1, q1, o1⟩; have hs1 := q1.out.1.size)
          | (at_builtin; go_loud (refine wpList_append_rows rfl _ _ rfl hi hz0 hz1 hz2 u5 v1 A0 O1 rfl rfl q1.out.2 o1.out (by omega) hs1 ?_); intro v2 w2 hown hgrow; have s2 := s1.grow hb hgrow q1.out.2; have q2 := Lib.hid (ownQ_grow q1.out hgrow hown); clear hown hgrow))
        have s2d := s2.keep (W' := w2.drew) (Below.refl _ _).drew; have q2d := Lib.hid (ownQ_keep q2.out (W' := w2.drew) (Below.refl _ _).drew); clear s0 s1 g0 g1 g2 g3 g4 g5 g6 g7 g8 g9 g10 g11
        go_region_held3 (fun W => W.cell? ⟨b, off + j * 12, none⟩ = some (.int .i64 a.kd) ∧ W.cell? ⟨b, off + j * 12 + 1, none⟩ = some (.int .i64 a.e.op) ∧ W.cell? ⟨b, off + j * 12 + 2, none⟩ = some (.int .i64 a.e.n) ∧ W.cell? ⟨b, off + j * 12 + 3, none⟩ = some (.string a.e.nm) ∧ W.cell? ⟨b, off + j * 12 + 4, none⟩ = some (.slice p4 a.e.args.length k4) ∧ W.cell? ⟨b, off + j * 12 + 5, none⟩ = some (.string a.nm) ∧ W.cell? ⟨b, off + j * 12 + 6, none⟩ = some (.string a.ix) ∧ W.cell? ⟨b, off + j * 12 + 7, none⟩ = some (.slice p7 a.ws.length k7) ∧ W.cell? ⟨b, off + j * 12 + 8, none⟩ = some (.slice p8 a.it.length k8) ∧ W.cell? ⟨b, off + j * 12 + 9, none⟩ = some (.slice p9 a.el.length k9) ∧ W.cell? ⟨b, off + j * 12 + 10, none⟩ = some (.slice p10 a.bf.length k10) ∧ W.cell? ⟨b, off + j * 12 + 11, none⟩ = some (.slice p11 a.af.length k11))
          (first | with_reducible assumption | fail)
          (first
            | ((refine step_append_rows rfl (.tmp 21) (.tmp 33) rfl hi hz0 hz1 hz2 v2 v4 (A0 ++ O1) E1 (by simp [Act.eval]) (by simp [Act.eval]) q4.out.2 o4.out (by rw [List.length_append]; omega) q4.out.1.size ?_); intro v5 w5 hown hgrow; have s5 := s4.grow hb hgrow q4.out.2; have q5 := Lib.hid (ownQ_grow q4.out hgrow hown); clear hown hgrow)
            | (go_at_call 70; (with_reducible refine (KI.out v2 (A0 ++ O1) _ ?_ ?_).mono ?_); assumption; assumption; rintro x w3 ⟨v3, rfl, s3, q3, t3⟩)
            | (go_at_call 38; (with_reducible refine (K8.out v2 (A0 ++ O1) _ _ ?_ ?_ t3).mono ?_); assumption; assumption; rintro x w4 ⟨v4, rfl, s4, q4, o4⟩))
        clear s2 s2d q2 q2d; go_wp2_with (first
          | (go_at_call 38; (with_reducible refine (K9.out v5 (A0 ++ O1 ++ E1) _ s5 q5).mono ?_); rintro x w6 ⟨v6, rfl, s6, q6, o6⟩; have hs6 := q6.out.1.size)
          | (at_builtin; go_loud (refine wpList_append_rows rfl _ _ rfl hi hz0 hz1 hz2 v5 v6 (A0 ++ O1 ++ E1) E2 rfl rfl q6.out.2 o6.out (by rw [List.length_append, List.length_append]; omega) hs6 ?_); intro v7 w7 hown hgrow; have q7 := Lib.hid (ownQ_grow q6.out hgrow hown); clear hown hgrow))
        go_roundw
        case rel => exact ⟨j + 1, by omega, by go_num, Lib.hid (by rw [HA3.out, HAT.out, ← List.append_assoc, ← List.append_assoc]; exact q7.out)⟩
        case measure => simp [intOf]; omega
      · have HE : Hid (alN d B (l.take j) = alN d B l) := Lib.hid (by rw [List.take_of_length_le (by rw [HK.out]; omega)]); go_wp2; go_ret; refine ⟨_, rfl, ?_, q0.out.1⟩; have := q0.out.2; rw [HE.out] at this; exact this
end Go.Proofs.YtpejflgdehioaaaGreatDoor.ItW
namespace Go.Proofs.YtpejflgdehioaaaGreatDoor.ItW
open Go Go.RowKit Go.Proofs.YtpejflgdehioaaaGreatDoor.NumM Go.Proofs.YtpejflgdehioaaaGreatDoor.LexW Go.Proofs.YtpejflgdehioaaaGreatDoor.LexM Go.Proofs.YtpejflgdehioaaaGreatDoor.ExM Go.Proofs.YtpejflgdehioaaaGreatDoor.ExW Go.Proofs.YtpejflgdehioaaaGreatDoor.ItM
theorem own_sz {N : Nat} {w : World} {a4 a7 a8 a9 a10 a11 : Value} {x : It} (h : IV N w a4 a7 a8 a9 a10 a11 x) (B : List ByteArray) : ∀ s ∈ ownN B x, s.size ≤ 140737488351232 := by
  unfold ownN; split
  · intro s hs; unfold exN at hs; obtain ⟨y, hy, hs⟩ := List.mem_flatMap.1 hs; have hn := at_names h.ex 1 y hy; unfold nodN at hs; split at hs
    · rw [List.mem_singleton] at hs; subst hs; omega
    · cases hs
  · split
    · intro s hs; rw [List.mem_singleton] at hs; subst hs; exact h.nm
    · split
      · obtain ⟨_, _, _, _, _, hz1, _⟩ := h.bfs; obtain ⟨_, _, _, _, _, hz2, _⟩ := h.afs; intro s hs; rcases List.mem_append.1 hs with hs | hs
        · exact hz1 s hs
        · exact hz2 s hs
      · intro s hs; cases hs
theorem alN_mem {d : Nat} {B : List ByteArray} {l : List It} {s : ByteArray} (h : s ∈ alN d B l) : ∃ a ∈ l, s ∈ ownN B a ∨ s ∈ alN (d + 1) (inn a.kd a.ix B) a.it ∨ s ∈ alN (d + 1) B a.el := by
  induction l with
  | nil => rw [alN_nil] at h; cases h
  | cons a r ih =>
    unfold alN at h ih ⊢; rw [wks_cons, wk_eq, List.flatMap_append, List.flatMap_cons, List.flatMap_append] at h; rcases List.mem_append.1 h with h | h
    · refine ⟨a, List.mem_cons_self, ?_⟩; rcases List.mem_append.1 h with h | h
      · exact .inl h
      · rcases List.mem_append.1 h with h | h
        · exact .inr (.inl h)
        · exact .inr (.inr h)
    · obtain ⟨b, hb, hs⟩ := ih h; exact ⟨b, List.mem_cons_of_mem _ hb, hs⟩
theorem alN_sz (l : List It) : ∀ (N d : Nat) (B : List ByteArray) (v : Value) (w : World), ItsA N w v l → ∀ s ∈ alN d B l, s.size ≤ 140737488351232 := by
  induction l using its_ind with
  | h l ih =>
    intro N d B v w hx s hs; obtain ⟨p, cap, V, rfl, hr⟩ := hx.form; obtain ⟨a, ha, hs⟩ := alN_mem hs; obtain ⟨j, hj⟩ := List.getElem?_of_mem ha; have hva := hr.hv j a hj; rcases hs with hs | hs | hs
    · exact own_sz hva B s hs
    · exact (ih a ha).1 _ _ _ _ _ hva.its s hs
    · exact (ih a ha).2 _ _ _ _ _ hva.els s hs
theorem dpt_iszs (l : List It) : ∀ k, iszs l ≤ k → dpt k l := by
  induction l using its_ind with
  | h l ih =>
    intro k hk; cases k with
    | zero =>
      have := len_iszs l; exact List.length_eq_zero_iff.1 (by omega)
    | succ k =>
      intro x hx; have h1 := isz_mem hx; rw [isz_eq] at h1; exact ⟨(ih x hx).1 k (by omega), (ih x hx).2 k (by omega)⟩
theorem mem_addsN {l ns : List ByteArray} {s : ByteArray} (h : s ∈ addsN l ns) : s ∈ l ∨ s ∈ ns := by
  induction ns generalizing l with
  | nil => exact .inl h
  | cons a r ih =>
    rcases ih (l := ItM.addN l a) h with h | h
    · unfold ItM.addN at h; split at h
      · exact .inl h
      · rcases List.mem_append.1 h with h | h
        · exact .inl h
        · rw [List.mem_singleton] at h; subst h; exact .inr List.mem_cons_self
    · exact .inr (List.mem_cons_of_mem _ h)
theorem namesI_sz {l : List It} {N : Nat} {v : Value} {w : World} (h : ItsA N w v l) : ∀ s ∈ namesI l, s.size ≤ 140737488351232 := fun s hs => by
  rcases mem_addsN hs with hs | hs
  · cases hs
  · exact alN_sz l N 0 [] v w h s hs
theorem namesI_len {l : List It} (h : RsL l) : (namesI l).length ≤ 20000 * iszs l := by
  have h1 := addsN_len [] (alN 0 [] l); have h2 := alN_len (d := 0) (B := []) h; show (addsN [] (alN 0 [] l)).length ≤ _; simp only [List.length_nil] at h1; omega
set_option maxRecDepth 100000 in
set_option maxHeartbeats 16000000 in
theorem namesR_any (l : List It) (v : Value) (w : World) (hx : ItsA w.heap.size w v l) (hsz : iszs l ≤ 1000) (hrs : RsL l) :
    Calls Tryz.prog 16 #[v] w (tRow (namesI l) w) := by
  have hlen := alN_len (d := 0) (B := []) hrs; have HSZ := Lib.hid (alN_sz l w.heap.size 0 [] v w hx); have AC0 := allR_any l 1000 0 [] [] v (.slice none 0 0) w (dpt_iszs l 1000 hsz) (fun _ => rfl) (by simp) hx (StA.nil _ _ _ _) hrs (by omega); have EN : Hid (namesI l = addsN [] (alN 0 [] l)) := Lib.hid rfl; obtain ⟨i0, hi, hz0, hz1, hz2⟩ := info_parts infoS; obtain ⟨M, hM⟩ : ∃ M, alN 0 [] l = M := ⟨_, rfl⟩; rw [hM] at hlen HSZ AC0 EN; obtain ⟨Q, hQ⟩ : ∃ Q, M.length = Q := ⟨_, rfl⟩; have HQ := Lib.hid hQ; unfold tRow at AC0; rw [hQ] at AC0 hlen; have AC := Lib.hid AC0; have hq : Q ≤ 20000000 := (by omega); clear AC0 hM hQ hx hrs hsz
  go_enter Tryz.func16, Tryz.ntmps16
  go_wp2_with (go_at_call 38; ((with_reducible refine AC.out.mono ?_); rintro e w1 ⟨v1, rfl, ho, hb⟩; obtain ⟨q1, k1, rfl⟩ := own_formN ho; have HO := Lib.hid ho; have HB := Lib.hid hb; clear ho hb))
  clear AC; go_loopw [3, 5] (fun t i wr => ∃ (j : Nat), j ≤ Q ∧ i = .int .i64 j ∧ Hid (Below w1.heap.size w1 wr ∧ wr.ownsRow w1.heap.size 9 1 t (addsN [] (M.take j)).length ((addsN [] (M.take j)).map Value.string))) (fun _ i _ => Q - (intOf i).toNat)
  case atStart => exact ⟨0, Nat.zero_le _, rfl, Lib.hid ⟨Below.refl _ _, by rw [List.take_zero]; exact World.ownsRow_nil _ _ _ _⟩⟩
  case round =>
    obtain ⟨j, hj, rfl, q0⟩ := hrel; by_cases hlt : j < Q
    · obtain ⟨s, hs⟩ : ∃ s, M[j]? = some s := ⟨_, List.getElem?_eq_getElem (by rw [HQ.out]; exact hlt)⟩; obtain ⟨g, cap', hv, hg1, hg2⟩ := HO.out.form (by omega); simp only [Value.slice.injEq, true_and] at hv; obtain ⟨rfl, rfl⟩ := hv; have c0 : w1.cell? ⟨g, j, none⟩ = some (.string s) := by
        rw [World.ownsRow.cellAt HO.out j (by omega), List.getElem?_map, hs]; rfl
      have c1 := (q0.out.1.cell (p := ⟨g, j, none⟩) hg2).trans c0; have hss := HSZ.out s (List.mem_of_getElem? hs); have HST : Hid (addsN [] (M.take (j + 1)) = ItM.addN (addsN [] (M.take j)) s) := Lib.hid (by
        obtain ⟨h3, h4⟩ := List.getElem?_eq_some_iff.1 hs; rw [List.take_succ_eq_append_getElem h3, h4, addsN_snoc])
      have hL : (addsN [] (M.take j)).length ≤ 20000000 := by
        have h1 := addsN_len [] (M.take j); rw [List.length_take, HQ.out] at h1; simp only [List.length_nil] at h1; omega
      have HLS : ∀ s ∈ addsN [] (M.take j), s.size ≤ 140737488351232 := fun s hs => by
        rcases mem_addsN hs with hs | hs
        · cases hs
        · exact HSZ.out s (List.mem_of_mem_take hs)
      generalize addsN [] (M.take j) = L at *
      have BC : Hid (Calls Tryz.prog 39 #[u3, .string s] wr fun e w' => e = .returned (.bool (memB L s)) ∧ wr = w') := Lib.hid (boundR_any L u3 s wr.heap.size wr (own_StA q0.out.2 (by omega) HLS)); have hws := q0.out.1.size; clear HLS c0 hs HSZ; cases hm : memB L s
      · rw [hm] at BC; have HS2 : Hid (addsN [] (M.take (j + 1)) = L ++ [s]) := Lib.hid (by rw [HST.out]; unfold ItM.addN; rw [if_neg (by rw [hm]; simp)]); have q1 := Lib.hid (ownQ_keep q0.out (ba wr (.cells #[.string s] 9))); have NEW : Hid ((wr.alloc (.cells #[.string s] 9)).ownsRow wr.heap.size 9 1 (.slice (some ⟨wr.heap.size, 0, none⟩) 1 1) [s].length ([s].map Value.string)) := Lib.hid ⟨rfl, .inr ⟨wr.heap.size, 1, #[.string s], rfl, Nat.le_refl _, heap_alloc_new wr _, Nat.le_refl _, by decide, rfl, rfl⟩⟩; clear HST hm; go_wp2_with (first
          | (go_at_call 39; ((with_reducible refine BC.out.mono ?_); rintro e w2 ⟨rfl, rfl⟩))
          | (at_builtin; go_loud (refine wpList_append_rows rfl _ _ rfl hi hz0 hz1 hz2 u3 (.slice (some ⟨wr.heap.size, 0, none⟩) 1 1) L [s] rfl rfl q1.out.2 NEW.out (by simp only [List.length_cons, List.length_nil]; omega) q1.out.1.size ?_); intro v' w3 hown hgrow; have q3 := Lib.hid (ownQ_grow q1.out hgrow hown); clear hown hgrow))
        go_roundw
        case rel => exact ⟨j + 1, by omega, by go_num, Lib.hid (by rw [HS2.out]; exact q3.out)⟩
        case measure => simp [intOf]; omega
      · rw [hm] at BC; have HS2 : Hid (addsN [] (M.take (j + 1)) = L) := Lib.hid (by rw [HST.out]; unfold ItM.addN; rw [if_pos hm]); clear HST hm; go_wp2_with (go_at_call 39; ((with_reducible refine BC.out.mono ?_); rintro e w2 ⟨rfl, rfl⟩))
        go_roundw
        case rel => exact ⟨j + 1, by omega, by go_num, Lib.hid (by rw [HS2.out]; exact q0.out)⟩
        case measure => simp [intOf]; omega
    · have HE : Hid (addsN [] (M.take j) = namesI l) := Lib.hid (by rw [List.take_of_length_le (by rw [HQ.out]; omega), EN.out]); go_wp2; go_ret; refine ⟨_, rfl, ?_, HB.out.trans (q0.out.1.mono HB.out.size)⟩; have := q0.out.2; rw [HE.out] at this; exact own_mono this HB.out.size
end Go.Proofs.YtpejflgdehioaaaGreatDoor.ItW
