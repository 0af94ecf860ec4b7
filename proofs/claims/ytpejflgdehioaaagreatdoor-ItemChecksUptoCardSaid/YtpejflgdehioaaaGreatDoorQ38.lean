/-
  Laws that the card uses; no conditions beside those that each states (ItRVal ItRIn ItRNm ItROne).
-/
import Derived.Test.YtpejflgdehioaaaGreatDoorQ09
import Derived.Test.YtpejflgdehioaaaGreatDoorQ33
import Derived.Test.YtpejflgdehioaaaGreatDoorQ34
import Derived.Test.YtpejflgdehioaaaGreatDoorQ35
namespace Go.Proofs.YtpejflgdehioaaaGreatDoor.ItW
open Go Go.RowKit Go.Proofs.YtpejflgdehioaaaGreatDoor.NumM Go.Proofs.YtpejflgdehioaaaGreatDoor.LexW Go.Proofs.YtpejflgdehioaaaGreatDoor.LexM Go.Proofs.YtpejflgdehioaaaGreatDoor.ExM Go.Proofs.YtpejflgdehioaaaGreatDoor.ExW Go.Proofs.YtpejflgdehioaaaGreatDoor.ItM
open Go.Proofs.YtpejflgdehioaaaGreatDoor.ClM (firstE firstE_zero)
theorem quietN {P : Program} {f : FuncId} {args : Array Value} {w : World} {n : Nat} {v : Value} (h : Calls P f args (w.drewN n) fun e w' => e = .returned v ∧ ∃ m, w' = (w.drewN n).drewN m) : Calls P f args (w.drewN n) fun e w'' => e = .returned v ∧ ∃ m, w'' = w.drewN m :=
  h.mono fun _ _ ⟨he, m, hm⟩ => ⟨he, n + m, by rw [hm, World.drewN_drewN]⟩
theorem dB {w : World} {n : Nat} : Below w.heap.size w (w.drewN n) := drewB (Below.refl _ _)
theorem reti {a b : Int} (h : a = b) : Ending.returned (.int .i64 a) = .returned (.int .i64 b) := by rw [h]
theorem kids_take {l : List It} {j : Nat} {a : It} (h : l[j]? = some a) : (l.length - (j + 1)) + iszs (l.take (j + 1)) = (l.length - j) + iszs (l.take j) + iszs a.it + iszs a.el := by
  have h1 := (List.getElem?_eq_some_iff.1 h).1; have h2 := iszs_take h; have h3 := isz_eq a; omega
set_option maxRecDepth 100000 in
set_option maxHeartbeats 8000000 in
theorem sizeR_any (l : List It) : ∀ (v : Value) (N : Nat) (w : World), ItsA N w v l → N ≤ w.heap.size → iszs l ≤ 10000 → Calls Tryz.prog 13 #[v] w fun e w' => e = .returned (.int .i64 (iszs l)) ∧ ∃ m, w' = w.drewN m := by
  induction l using its_ind with
  | h l ih =>
    intro v N w hx hN hsz; obtain ⟨p, cap, V, rfl, hr⟩ := hx.form; have hl := hr.hl; have HR := Lib.hid hr; have HIH := Lib.hid ih; have hlen := len_iszs l; obtain ⟨K, hK⟩ : ∃ K, l.length = K := ⟨_, rfl⟩; have HK := Lib.hid hK; rw [hK] at hl hlen ⊢; have HT0 : Hid ((K - 0) + iszs (l.take 0) = K) := Lib.hid (by rw [List.take_zero, iszs_nil]; omega); clear hx hr ih hK
    go_enter Tryz.func13, Tryz.ntmps13
    go_wp2; go_loopw [3, 4] (fun s i wr => ∃ (j t : Nat), j ≤ K ∧ i = .int .i64 j ∧ s = .int .i64 t ∧ t ≤ 20000 ∧ Hid (t = (K - j) + iszs (l.take j)) ∧ Hid (∃ m, wr = w.drewN m)) (fun _ i _ => K - (intOf i).toNat)
    case atStart => exact ⟨0, K, Nat.zero_le _, rfl, rfl, by omega, Lib.hid HT0.out.symm, Lib.hid ⟨0, rfl⟩⟩
    case round =>
      obtain ⟨j, t, hj, rfl, rfl, ht, TW, DW⟩ := hrel; have hbw : Below w.heap.size w wr := by
        obtain ⟨m, hm⟩ := DW.out; rw [hm]; exact drewB (Below.refl _ _)
      by_cases hlt : j < K
      · obtain ⟨a, ha⟩ : ∃ a, l[j]? = some a := ⟨_, List.getElem?_eq_getElem (by rw [HK.out]; exact hlt)⟩; have hmem := List.mem_of_getElem? ha; have hr2 := HR.out.under (hbw.mono hN); obtain ⟨b, off, rfl, hb, hcell⟩ := hr2.hp (by rw [HK.out]; omega); have hva := hr2.hv j a ha; have hc := hcell j a ha; have g8 := hc.c8; have g9 := hc.c9; obtain ⟨p4, k4, p7, k7, p8, k8, p9, k9, p10, k10, p11, k11, e4, e7, e8, e9, e10, e11⟩ := hva.slices; have hi8 := hva.its; have hi9 := hva.els; rw [e8] at g8 hi8; rw [e9] at g9 hi9; have hkt := kids_take ha; rw [HK.out] at hkt; have hil := isz_mem hmem; have hie := isz_eq a; have hA : iszs a.it ≤ 10000 := (by omega); have hB : iszs a.el ≤ 10000 := (by omega); have VC8 : Hid (∀ W, Below wr.heap.size wr W → Calls Tryz.prog 13 #[.slice p8 a.it.length k8] W fun e w' => e = .returned (.int .i64 (iszs a.it)) ∧ ∃ m, w' = W.drewN m) := (Lib.hid fun W hW => (HIH.out a hmem).1 _ N W (hi8.under (hW.mono (Nat.le_trans hN hbw.size))) (Nat.le_trans (Nat.le_trans hN hbw.size) hW.size) hA); have VC9 : Hid (∀ W, Below wr.heap.size wr W → Calls Tryz.prog 13 #[.slice p9 a.el.length k9] W fun e w' => e = .returned (.int .i64 (iszs a.el)) ∧ ∃ m, w' = W.drewN m) := (Lib.hid fun W hW => (HIH.out a hmem).2 _ N W (hi9.under (hW.mono (Nat.le_trans hN hbw.size))) (Nat.le_trans (Nat.le_trans hN hbw.size) hW.size) hB); have TN : Hid (t + iszs a.it + iszs a.el = (K - (j + 1)) + iszs (l.take (j + 1))) := Lib.hid (by rw [hkt, TW.out]); have htl := iszs_take_le (j + 1) l; have htn : t + iszs a.it + iszs a.el ≤ 20000 := (by have := TN.out; omega); clear hcell hva hc hi8 hi9 hr2 e4 e7 e8 e9 e10 e11 ha hmem hkt hil hie htl; generalize iszs a.it = A at *
        generalize iszs a.el = B at *
        generalize a.it.length = KA at *
        generalize a.el.length = KB at *
        have hw1 : IntKind.i64.wrap ((t : Int) + (A : Int)) = (t : Int) + (A : Int) := IntWalk.i64_in _ (by omega); have hw2 : IntKind.i64.wrap ((t : Int) + (A : Int) + (B : Int)) = (t : Int) + (A : Int) + (B : Int) := IntWalk.i64_in _ (by omega); go_wp2; go_quiet ((go_at_call 13; first | with_reducible exact quietN (VC8.out _ dB) | with_reducible exact quietN (VC9.out _ dB)))
        go_wp2; go_roundw
        case rel => exact ⟨j + 1, t + A + B, by omega, by go_num, by go_num, htn, TN, Lib.hid (by obtain ⟨m, hm⟩ := DW.out; exact ⟨m + nq, by rw [hm, World.drewN_drewN]⟩)⟩
        case measure => simp [intOf]; omega
      · have hjK : j = K := (by omega); have TE : Hid ((t : Int) = (iszs l : Int)) := Lib.hid (by
          have := TW.out; rw [List.take_of_length_le (by rw [HK.out]; omega)] at this; omega)
        have R := DW; clear hjK; go_wp2; go_ret; exact ⟨reti TE.out, R.out⟩
theorem vl_append (d : Nat) (a b : List It) : vlL d (a ++ b) = if vlL d a = 0 then vlL d b else vlL d a := by
  unfold vlL; rw [wks_append, List.map_append, firstE_append]
theorem vl_at {d j : Nat} {l : List It} {a : It} (h : l[j]? = some a) (h0 : vlL d (l.take j) = 0) :
    (fltI d a ≠ 0 → vlL d l = fltI d a) ∧ (fltI d a = 0 → vlL (d + 1) a.it ≠ 0 → vlL d l = vlL (d + 1) a.it) ∧ (fltI d a = 0 → vlL (d + 1) a.it = 0 → vlL (d + 1) a.el ≠ 0 → vlL d l = vlL (d + 1) a.el) ∧
      (fltI d a = 0 → vlL (d + 1) a.it = 0 → vlL (d + 1) a.el = 0 → vlL d (l.take (j + 1)) = 0) := by
  obtain ⟨hj, he⟩ := List.getElem?_eq_some_iff.1 h; have hs : l = l.take j ++ a :: l.drop (j + 1) := by
    rw [← he, List.getElem_cons_drop hj, List.take_append_drop]
  have e := vl_append d (l.take j) (a :: l.drop (j + 1)); rw [← hs, if_pos h0, vl_cons] at e; have e2 := vl_append d (l.take j) [a]; rw [← he, ← List.take_succ_eq_append_getElem hj, if_pos h0, he, vl_cons, vl_nil] at e2; refine ⟨fun h1 => by rw [e, if_neg h1], fun h1 h2 => by rw [e, if_pos h1, if_neg h2], fun h1 h2 h3 => by rw [e, if_pos h1, if_pos h2, if_neg h3], fun h1 h2 h3 => by rw [e2, if_pos h1, if_pos h2, if_pos h3]⟩
theorem flt_deep2 {d : Nat} {x : It} (h : fltI d x = 0) : d ≤ 4 := by
  unfold fltI at h; split at h
  · cases h
  · rename_i hn; simp only [Bool.or_eq_true, decide_eq_true_eq, not_or] at hn; omega
set_option maxRecDepth 100000 in
set_option maxHeartbeats 16000000 in
theorem validLR_any (l : List It) : ∀ (d : Nat) (v : Value) (N : Nat) (w : World), d ≤ 5 → ItsA N w v l → N ≤ w.heap.size → RsL l → Calls Tryz.prog 41 #[v, .int .i64 d] w (tInt (vlL d l) w) := by
  induction l using its_ind with
  | h l ih =>
    intro d v N w hd5 hx hN hrs; obtain ⟨p, cap, V, rfl, hr⟩ := hx.form; have hl := hr.hl; have HR := Lib.hid hr; have HIH := Lib.hid ih; have HRS := Lib.hid hrs; obtain ⟨K, hK⟩ : ∃ K, l.length = K := ⟨_, rfl⟩; have HK := Lib.hid hK; rw [hK] at hl ⊢; have hk47 : K ≤ 140737488351232 := (by omega); have HV0 : Hid (vlL d (l.take 0) = 0) := Lib.hid (by rw [List.take_zero]; exact vl_nil d); have HB0 := Lib.hid (Below.refl w.heap.size w); clear hx hr ih hK hrs hl
    go_enter Tryz.func41, Tryz.ntmps41
    go_wp2; go_loopw [5] (fun i wr => ∃ (j : Nat), j ≤ K ∧ i = .int .i64 j ∧ Hid (vlL d (l.take j) = 0) ∧ Hid (Below w.heap.size w wr)) (fun i _ => K - (intOf i).toNat)
    case atStart => exact ⟨0, Nat.zero_le _, rfl, HV0, HB0⟩
    case round =>
      obtain ⟨j, hj, rfl, VW, BW⟩ := hrel; by_cases hlt : j < K
      · obtain ⟨a, ha⟩ : ∃ a, l[j]? = some a := ⟨_, List.getElem?_eq_getElem (by rw [HK.out]; exact hlt)⟩; have hmem := List.mem_of_getElem? ha; obtain ⟨b, off, rfl, hb, hcell⟩ := HR.out.hp (by rw [HK.out]; omega); have hva := HR.out.hv j a ha; have hc := hcell j a ha; have hrs := (rsI_eq a).1 (rsL_mem.1 HRS.out a hmem); have WC0 := (fun (W : World) (hW : Below w.heap.size w W) => wrongR_any a _ _ _ _ _ _ N d (by omega) W (hva.under (hW.mono hN)) (by have := hW.size; omega) hrs.1.1); have hi8 := hva.its; have hi9 := hva.els; obtain ⟨p4, k4, p7, k7, p8, k8, p9, k9, p10, k10, p11, k11, e4, e7, e8, e9, e10, e11⟩ := hva.slices; have HCE : Hid (∀ W, Below w.heap.size w W → C12 W b (off + j * 12) a (V j)) := (Lib.hid fun W hW => hc.kept (low_cells (hW.mono hN) b · hb)); have AT := Lib.hid (vl_at ha VW.out); have VC8 : Hid (∀ W, Below w.heap.size w W → fltI d a = 0 → Calls Tryz.prog 41 #[.slice p8 a.it.length k8, .int .i64 ((d : Int) + 1)] W (tInt (vlL (d + 1) a.it) W)) := Lib.hid fun W hW h0 => by
          have := (HIH.out a hmem).1 (d + 1) _ N W (by have := flt_deep2 h0; omega) (hi8.under (hW.mono hN)) (by have := hW.size; omega) hrs.2.1; rw [e8] at this; exact this
        have VC9 : Hid (∀ W, Below w.heap.size w W → fltI d a = 0 → Calls Tryz.prog 41 #[.slice p9 a.el.length k9, .int .i64 ((d : Int) + 1)] W (tInt (vlL (d + 1) a.el) W)) := Lib.hid fun W hW h0 => by
          have := (HIH.out a hmem).2 (d + 1) _ N W (by have := flt_deep2 h0; omega) (hi9.under (hW.mono hN)) (by have := hW.size; omega) hrs.2.2; rw [e9] at this; exact this
        obtain ⟨g0, g1, g2, g3, g4, g5, g6, g7, g8, g9, g10, g11⟩ := HCE.out wr BW.out; rw [e4] at g4 WC0; rw [e7] at g7 WC0; rw [e8] at g8 WC0; rw [e9] at g9 WC0; rw [e10] at g10 WC0; rw [e11] at g11 WC0; have HC8 : Hid (∀ W, Below w.heap.size w W → W.cell? ⟨b, off + j * 12 + 5 + 3, none⟩ = some (.slice p8 a.it.length k8)) := (Lib.hid fun W hW => by have := (HCE.out W hW).c8; rw [e8] at this; exact this); have HC8' : Hid (∀ W, Below w.heap.size w W → W.cell? ⟨b, off + j * 12 + 8, none⟩ = some (.slice p8 a.it.length k8)) := (Lib.hid fun W hW => by have := (HCE.out W hW).c8; rw [e8] at this; exact this); have HC9 : Hid (∀ W, Below w.heap.size w W → W.cell? ⟨b, off + j * 12 + 9, none⟩ = some (.slice p9 a.el.length k9)) := (Lib.hid fun W hW => by have := (HCE.out W hW).c9; rw [e9] at this; exact this); have WC := Lib.hid (WC0 wr BW.out); clear hcell hva hc hi8 hi9 e4 e7 e8 e9 e10 e11 ha hmem WC0 hrs HCE; generalize fltI d a = E1 at *
        generalize vlL (d + 1) a.it = E2 at *
        generalize vlL (d + 1) a.el = E3 at *
        by_cases h1 : E1 = 0
        · rw [h1] at WC; by_cases h2 : E2 = 0
          · rw [h2] at VC8; by_cases h3 : E3 = 0
            · have VN := Lib.hid (AT.out.2.2.2 h1 h2 h3); rw [h3] at VC9; have V8 := Lib.hid (fun W hW => VC8.out W hW h1); have V9 := Lib.hid (fun W hW => VC9.out W hW h1); clear h1 h2 h3 AT VC8 VC9; go_wp2_with (first
                | (go_at_call 77; ((with_reducible refine WC.out.mono ?_); rintro e w1 ⟨rfl, hb1⟩; have HB1 := Lib.hid (BW.out.then_ hb1); have g8' := HC8'.out _ HB1.out; clear hb1))
                | (go_at_call 41; ((with_reducible refine (V8.out _ HB1.out).mono ?_); rintro e w2 ⟨rfl, hb2⟩; have HB2 := Lib.hid (HB1.out.then_ hb2); have g9' := HC9.out _ HB2.out; clear hb2))
                | (go_at_call 41; ((with_reducible refine (V9.out _ HB2.out).mono ?_); rintro e w3 ⟨rfl, hb3⟩; have HB3 := Lib.hid (HB2.out.then_ hb3); clear hb3)))
              go_roundw
              case rel => exact ⟨j + 1, by omega, by go_num, VN, HB3⟩
              case measure => simp [intOf]; omega
            · have VN := Lib.hid (AT.out.2.2.1 h1 h2 h3); have f3 : (E3 != 0) = true := (by simpa using h3); have V8 := Lib.hid (fun W hW => VC8.out W hW h1); have V9 := Lib.hid (fun W hW => VC9.out W hW h1); clear h1 h2 AT VC8 VC9; go_wp2_with (first
                | (go_at_call 77; ((with_reducible refine WC.out.mono ?_); rintro e w1 ⟨rfl, hb1⟩; have HB1 := Lib.hid (BW.out.then_ hb1); have g8' := HC8'.out _ HB1.out; clear hb1))
                | (go_at_call 41; ((with_reducible refine (V8.out _ HB1.out).mono ?_); rintro e w2 ⟨rfl, hb2⟩; have HB2 := Lib.hid (HB1.out.then_ hb2); have g9' := HC9.out _ HB2.out; clear hb2))
                | (go_at_call 41; ((with_reducible refine (V9.out _ HB2.out).mono ?_); rintro e w3 ⟨rfl, hb3⟩; have HB3 := Lib.hid (HB2.out.then_ hb3); clear hb3)))
              go_ret; exact tInt_mk VN.out HB3.out
          · have VN := Lib.hid (AT.out.2.1 h1 h2); have f2 : (E2 != 0) = true := (by simpa using h2); have V8 := Lib.hid (fun W hW => VC8.out W hW h1); clear h1 AT VC8 VC9; go_wp2_with (first
              | (go_at_call 77; ((with_reducible refine WC.out.mono ?_); rintro e w1 ⟨rfl, hb1⟩; have HB1 := Lib.hid (BW.out.then_ hb1); have g8' := HC8'.out _ HB1.out; clear hb1))
              | (go_at_call 41; ((with_reducible refine (V8.out _ HB1.out).mono ?_); rintro e w2 ⟨rfl, hb2⟩; have HB2 := Lib.hid (HB1.out.then_ hb2); clear hb2)))
            go_ret; exact tInt_mk VN.out HB2.out
        · have VN := Lib.hid (AT.out.1 h1); have f1 : (E1 != 0) = true := (by simpa using h1); clear AT VC8 VC9; go_wp2_with (first
            | (go_at_call 77; ((with_reducible refine WC.out.mono ?_); rintro e w1 ⟨rfl, hb1⟩; have HB1 := Lib.hid (BW.out.then_ hb1); clear hb1)))
          go_ret; exact tInt_mk VN.out HB1.out
      · have VN : Hid (vlL d l = 0) := Lib.hid (by have := VW.out; rw [List.take_of_length_le (by rw [HK.out]; omega)] at this; exact this); go_wp2; go_ret; exact tInt_mk VN.out BW.out
set_option maxRecDepth 100000 in
theorem itemValidR_any (l : List It) (v : Value) (w : World) (hx : ItsA w.heap.size w v l) (hsz : iszs l ≤ 10000) (hrs : RsL l) :
    Calls Tryz.prog 18 #[v] w (tInt (validI l) w) := by
  have SC := Lib.hid (sizeR_any l v _ w hx (Nat.le_refl _) hsz); have VC : Hid (∀ W, Below w.heap.size w W → Calls Tryz.prog 41 #[v, .int .i64 0] W (tInt (vlL 0 l) W)) := (Lib.hid fun W hW => validLR_any l 0 v w.heap.size W (by decide) (hx.under hW) hW.size hrs); have EE : Hid (validI l = if 64 < iszs l then 2 else vlL 0 l) := Lib.hid rfl; obtain ⟨p, cap, V, rfl, _⟩ := hx.form; generalize iszs l = z at *
  generalize vlL 0 l = y at *
  generalize l.length = K at *
  by_cases h : 64 < z
  · rw [if_pos h] at EE; have d : decide ((64 : Int) < (z : Int)) = true := decide_eq_true (by omega)
    go_enter Tryz.func18, Tryz.ntmps18
    go_wp2_with (go_at_call 13; ((with_reducible refine SC.out.mono ?_); rintro e w1 ⟨rfl, m, rfl⟩))
    go_ret; exact tInt_mk EE.out dB
  · rw [if_neg h] at EE; have d : decide ((64 : Int) < (z : Int)) = false := decide_eq_false (by omega)
    go_enter Tryz.func18, Tryz.ntmps18
    go_wp2_with (first
      | (go_at_call 13; ((with_reducible refine SC.out.mono ?_); rintro e w1 ⟨rfl, m, rfl⟩))
      | (go_at_call 41; ((with_reducible refine (VC.out _ dB).mono ?_); rintro e w2 ⟨rfl, hb⟩; have HB := Lib.hid (dB.then_ hb); clear hb)))
    go_ret; exact tInt_mk EE.out HB.out
end Go.Proofs.YtpejflgdehioaaaGreatDoor.ItW
namespace Go.Proofs.YtpejflgdehioaaaGreatDoor.ItW
open Go Go.RowKit Go.Proofs.YtpejflgdehioaaaGreatDoor.NumM Go.Proofs.YtpejflgdehioaaaGreatDoor.LexW Go.Proofs.YtpejflgdehioaaaGreatDoor.LexM Go.Proofs.YtpejflgdehioaaaGreatDoor.ExM Go.Proofs.YtpejflgdehioaaaGreatDoor.ExW Go.Proofs.YtpejflgdehioaaaGreatDoor.ItM
open Go.Proofs.YtpejflgdehioaaaGreatDoor.ClM (Fld firstE)
def innR (kd : Int) (ix : ByteArray) (B : List ByteArray) : List ByteArray := if kd = 5 then B ++ [ix] else B
theorem mem_innR (kd : Int) (ix : ByteArray) (B B' : List ByteArray) (h : ∀ s, memB B' s = memB B s) (s : ByteArray) : memB (innR kd ix B') s = memB (inn kd ix B) s := by
  unfold innR inn; split
  · have h2 := h s; unfold memB at h2 ⊢; rw [List.any_append, List.any_cons, List.any_cons, List.any_nil, h2, Bool.or_false, Bool.or_comm]
  · exact h s
def tRow (L : List ByteArray) (w : World) (x : Ending) (w' : World) : Prop := ∃ v, x = .returned v ∧ w'.ownsRow w.heap.size 9 1 v L.length (L.map Value.string) ∧ Below w.heap.size w w'
set_option maxRecDepth 100000 in
set_option maxHeartbeats 8000000 in
theorem innerR_any (x : It) (a4 a7 a8 a9 a10 a11 : Value) (B : List ByteArray) (vi : Value) (N : Nat) (w : World) (h : IV N w a4 a7 a8 a9 a10 a11 x) (hb : StA N w vi B) (hN : N ≤ w.heap.size) (hB : B.length ≤ 100000) :
    Calls Tryz.prog 70 #[iv x.kd x.e.op x.e.n x.e.nm a4 x.nm x.ix a7 a8 a9 a10 a11, vi] w (tRow (innR x.kd x.ix B) w) := by
  obtain ⟨kd, o, n, en, p4, k4, c4, nm, ix, p7, k7, c7, p8, k8, c8, p9, k9, c9, p10, k10, c10, p11, k11, c11, ev, hv⟩ := h.open_; have ev2 := ev; simp only [Value.agg.injEq, Array.mk.injEq, List.cons.injEq] at ev2; obtain ⟨-, -, -, -, rfl, -, -, rfl, rfl, rfl, rfl, rfl, -⟩ := ev2; rw [ev]; obtain ⟨e0, e1, e2, e3, e5, e6, l4, l7, l8, l9, l10, l11, -⟩ := hv; rw [e0, e6]; obtain ⟨i0, hi, hz0, hz1, hz2⟩ := info_parts infoS; have hb2 := hb; obtain ⟨p, cap, rfl, hl, hc, hs, _⟩ := hb; obtain ⟨K, hK⟩ : ∃ K, B.length = K := ⟨_, rfl⟩; have HK := Lib.hid hK; rw [hK] at hl hb2 hB ⊢; clear h ev e0 e1 e2 e3 e5 e6 l4 l7 l8 l9 l10 l11 hs hc; have F0 := (Blk.new w (ics kd o n en (.slice p4 k4 c4) nm ix (.slice p7 k7 c7) (.slice p8 k8 c8) (.slice p9 k9 c9) (.slice p10 k10 c10) (.slice p11 k11 c11)) 55).stay (ba _ (.cells #[] 9)); have hbb := (ba w (.cells (ics kd o n en (.slice p4 k4 c4) nm ix (.slice p7 k7 c7) (.slice p8 k8 c8) (.slice p9 k9 c9) (.slice p10 k10 c10) (.slice p11 k11 c11)).toArray 55)).then_ (ba _ (.cells #[] 9)); have hz2' : ((w.alloc (.cells (ics kd o n en (.slice p4 k4 c4) nm ix (.slice p7 k7 c7) (.slice p8 k8 c8) (.slice p9 k9 c9) (.slice p10 k10 c10) (.slice p11 k11 c11)).toArray 55)).alloc (.cells #[] 9)).heap.size = w.heap.size + 1 + 1 := (by rw [World.size_alloc, World.size_alloc]); have HO0 : ((w.alloc (.cells (ics kd o n en (.slice p4 k4 c4) nm ix (.slice p7 k7 c7) (.slice p8 k8 c8) (.slice p9 k9 c9) (.slice p10 k10 c10) (.slice p11 k11 c11)).toArray 55)).alloc (.cells #[] 9)).ownsRow w.heap.size 9 1 (.slice (some ⟨w.heap.size + 1, 0, none⟩) 0 0) 0 [] :=
    ⟨rfl, .inr ⟨w.heap.size + 1, 0, #[], rfl, Nat.le_succ _, by
      have := heap_alloc_new (w.alloc (.cells (ics kd o n en (.slice p4 k4 c4) nm ix (.slice p7 k7 c7) (.slice p8 k8 c8) (.slice p9 k9 c9) (.slice p10 k10 c10) (.slice p11 k11 c11)).toArray 55)) (.cells #[] 9); rw [World.size_alloc] at this; exact this, Nat.le_refl _, Nat.zero_le _, rfl, rfl⟩⟩
  simp only [List.toArray] at F0 hbb hz2' HO0; obtain ⟨W0, hW0⟩ : ∃ W0, (w.alloc (.cells #[.int .i64 kd, .int .i64 o, .int .i64 n, .string en, .slice p4 k4 c4, .string nm, .string ix, .slice p7 k7 c7, .slice p8 k8 c8, .slice p9 k9 c9, .slice p10 k10 c10, .slice p11 k11 c11] 55)).alloc (.cells #[] 9) = W0 := ⟨_, rfl⟩; rw [hW0] at F0 hbb hz2' HO0; have d0 := F0.c 0 _ rfl; have d6 := F0.c 6 _ rfl; have HF := Lib.hid F0; have HBB := Lib.hid hbb; have HO := Lib.hid HO0; have HZ := Lib.hid hz2'; have HI : Hid (innR kd ix B = if kd = 5 then B ++ [ix] else B) := Lib.hid rfl; clear F0 hbb HO0 hz2' hK; cases p with
  | none =>
    obtain ⟨h1, h3⟩ := hb2.none_len; have H3 := Lib.hid h3; subst h1; clear hb2 h3; by_cases h5 : kd = 5
    · subst h5; have HI5 : Hid (innR 5 ix B = B ++ [ix]) := Lib.hid (by rw [HI.out]; exact if_pos rfl); clear HI; have HO1 := Lib.hid (own_later HO.out (ba W0 (.cells #[.string ix] 9)))
      go_enter Tryz.func70, Tryz.ntmps70
      go_wp2_with (at_builtin; refine wpList_append_own _ rfl _ _ 27 rfl w.heap.size 9 i0 (.string ⟨#[]⟩) 1 16 Tryz.underlying27 hi hz0 hz1 hz2 rfl (by decide) _ 0 [] rfl HO1.out ⟨W0.heap.size, 0, none⟩ 1 1 [.string ix] rfl rfl (by exact cell_one_at rfl _ _) (by simp [Value.oneCell']) (by unfold maxLen; omega) (by omega) (by rw [World.size_alloc, HZ.out]; omega) ?_)
      intro v' w2 hown' hgrow _; have HO2 := Lib.hid hown'; have HG2 := Lib.hid hgrow; clear hown' hgrow; clear hW0; go_wp2; go_ret; refine ⟨_, rfl, ?_, (HBB.out.then_ (ba W0 (.cells #[.string ix] 9))).grown HG2.out (by rw [World.size_alloc, HZ.out]; omega) (fun k e => by simp [Value.ownBlock] at e; omega)⟩; rw [HI5.out, H3.out]; exact HO2.out
    · have f5 : (kd == 5) = false := (by rw [beq_eq_false_iff_ne]; exact h5); have HIn : Hid (innR kd ix B = B) := Lib.hid (by rw [HI.out]; exact if_neg h5); clear HI
      go_enter Tryz.func70, Tryz.ntmps70
      go_wp2; go_ret; refine ⟨_, rfl, ?_, HBB.out⟩; rw [HIn.out, H3.out]; exact HO.out
  | some ad =>
    have HNS := Lib.hid hb2.news.2; have N1 := Lib.hid (one_str B); have hfl : Hid ((B.map Value.string).length = K * 1) := Lib.hid (by rw [List.length_map, HK.out, Nat.mul_one]); clear hb2; by_cases h5 : kd = 5
    · subst h5; have HI5 : Hid (innR 5 ix B = B ++ [ix]) := Lib.hid (by rw [HI.out]; exact if_pos rfl); clear HI
      go_enter Tryz.func70, Tryz.ntmps70
      go_wp2_with (at_builtin; refine wpList_append_own _ rfl _ _ 27 rfl w.heap.size 9 i0 (.string ⟨#[]⟩) 1 16 Tryz.underlying27 hi hz0 hz1 hz2 rfl (by decide) _ 0 [] rfl HO.out ad K cap (B.map Value.string) rfl hfl.out (HNS.out _ (HBB.out.mono hN)) N1.out (by unfold maxLen; omega) (by omega) (by rw [HZ.out]; omega) ?_)
      intro v' w2 hown' hgrow _; have HB2 : Hid (Below w.heap.size w w2) := Lib.hid (HBB.out.grown hgrow (by rw [HZ.out]; omega) (fun k e => by simp [Value.ownBlock] at e; omega)); have hzz := hgrow.size; rw [HZ.out] at hzz; have F2 := Lib.hid (blk_eq HF.out (hgrow.block w.heap.size (by rw [HZ.out]; omega) (by simp [Value.ownBlock]))); clear d0 d6; have d0 := F2.out.c 0 _ rfl; have d6 := F2.out.c 6 _ rfl; obtain ⟨v'', hv''⟩ : ∃ x, x = v' := ⟨_, rfl⟩; obtain ⟨qv, kv, cv, rfl⟩ := own_slice hown'; have HO1 := Lib.hid (own_later hown' (ba w2 (.cells #[.string ix] 9))); have HOW := Lib.hid (own_lt hown'); clear hown' hgrow hv'' hW0; go_wp2_with (at_builtin; go_loud (refine wpList_append_own _ rfl _ _ 27 rfl w.heap.size 9 i0 (.string ⟨#[]⟩) 1 16 Tryz.underlying27 hi hz0 hz1 hz2 rfl (by decide) _ K (B.map Value.string) rfl HO1.out ⟨w2.heap.size, 0, none⟩ 1 1 [.string ix] rfl rfl (by exact cell_one_at rfl _ _) (by simp [Value.oneCell']) (by unfold maxLen; omega) (by omega) (by rw [World.size_alloc]; omega) ?_))
      intro v3 w3 hown' hgrow _; have HO3 := Lib.hid hown'; have HB3 : Hid (Below w.heap.size w w3) := Lib.hid ((HB2.out.then_ (ba w2 (.cells #[.string ix] 9))).grown hgrow (by rw [World.size_alloc]; omega) (fun k e => (HOW.out k e).1)); clear hown' hgrow; go_wp2; go_ret; refine ⟨_, rfl, ?_, HB3.out⟩; rw [HI5.out, List.length_append, List.map_append, HK.out]; exact HO3.out
    · have f5 : (kd == 5) = false := (by rw [beq_eq_false_iff_ne]; exact h5); have HIn : Hid (innR kd ix B = B) := Lib.hid (by rw [HI.out]; exact if_neg h5); clear HI
      go_enter Tryz.func70, Tryz.ntmps70
      go_wp2_with (at_builtin; refine wpList_append_own _ rfl _ _ 27 rfl w.heap.size 9 i0 (.string ⟨#[]⟩) 1 16 Tryz.underlying27 hi hz0 hz1 hz2 rfl (by decide) _ 0 [] rfl HO.out ad K cap (B.map Value.string) rfl hfl.out (HNS.out _ (HBB.out.mono hN)) N1.out (by unfold maxLen; omega) (by omega) (by rw [HZ.out]; omega) ?_)
      intro v' w2 hown' hgrow _; have HB2 : Hid (Below w.heap.size w w2) := Lib.hid (HBB.out.grown hgrow (by rw [HZ.out]; omega) (fun k e => by simp [Value.ownBlock] at e; omega)); have F2 := Lib.hid (blk_eq HF.out (hgrow.block w.heap.size (by rw [HZ.out]; omega) (by simp [Value.ownBlock]))); have HO2 := Lib.hid hown'; clear d0 d6 hown' hgrow hW0; have d0 := F2.out.c 0 _ rfl; go_wp2; go_ret; refine ⟨_, rfl, ?_, HB2.out⟩; rw [HIn.out, HK.out]; have := HO2.out
      (try rw [Nat.zero_add] at this)
      (try rw [List.nil_append] at this)
      exact this
theorem unk_eq (fs : List Fld) (hNm : ∀ f ∈ fs, nmB f.nm.data.toList = true) (s : ByteArray) : unkB fs s = (!decide (varE fs s = 0) && !decide (arrE fs s = 0)) := by
  have hA : hasA fs s = true → misP fs s = false := fun h => by
    unfold hasA at h; cases ho : szO fs s with
    | none => rw [szI_none ho] at h; simp at h
    | some n =>
      obtain ⟨f, hf, rfl, _⟩ := szO_mem ho; unfold misP; rw [isE_name (hNm f hf)]; rfl
  have hP : hasA fs s = true → hasP fs s = false := fun h => by
    unfold hasA at h; cases ho : szO fs s with
    | none => exact hasP_none ho
    | some n =>
      rw [szI_some ho] at h; rw [hasP_some ho]; have := of_decide_eq_true h; exact decide_eq_false (by omega)
  have hP2 : hasP fs s = true → hasA fs s = false := fun h => by
    cases h2 : hasA fs s with
    | false => rfl
    | true => rw [hP h2] at h; cases h
  unfold unkB varE arrE; cases h1 : hasA fs s with
  | true => rw [hA h1, hP h1]; simp
  | false =>
    cases h2 : misP fs s with
    | true =>
      cases h3 : hasP fs s <;> simp
    | false =>
      cases h3 : hasP fs s with
      | true =>
        have : hasV fs s = true := (by unfold hasV; rw [h3]; rfl); rw [this]; simp
      | false => cases h4 : hasV fs s <;> simp
set_option maxRecDepth 100000 in
set_option maxHeartbeats 8000000 in
theorem namedR_any (fs : List Fld) (hNm : ∀ f ∈ fs, nmB f.nm.data.toList = true) (l : List ByteArray) (cv v : Value) (N N' : Nat) (w : World) (hc : ClA N w cv fs) (ha : StA N' w v l) (hN : N ≤ w.heap.size) (hN' : N' ≤ w.heap.size) :
    Calls Tryz.prog 130 #[cv, v] w (tBool (!l.any (unkB fs)) w) := by
  have VC : Hid (∀ W s, Below w.heap.size w W → s.size ≤ 140737488351232 → Calls Tryz.prog 103 #[cv, .string s] W (tInt (varE fs s) W)) := (Lib.hid fun W s hW hs => variableR_any fs hNm cv s N W (hc.under (hW.mono hN)) (by have := hW.size; omega) hs); have AC : Hid (∀ W s, Below w.heap.size w W → Calls Tryz.prog 104 #[cv, .string s] W (tInt (arrE fs s) W)) := (Lib.hid fun W s hW => arrayR_any fs cv s N W (hc.under (hW.mono hN)) (by have := hW.size; omega)); have UE : Hid (∀ s, unkB fs s = (!decide (varE fs s = 0) && !decide (arrE fs s = 0))) := Lib.hid (unk_eq fs hNm); obtain ⟨cnm, par, vf, pb, kb, cb, rfl, pf, cf, rfl, _⟩ := hc; obtain ⟨p, cap, rfl, hl, hc0, hz, hp⟩ := ha; have HP := Lib.hid hp; have HZ := Lib.hid hz; obtain ⟨K, hK⟩ : ∃ K, l.length = K := ⟨_, rfl⟩; have HK := Lib.hid hK; rw [hK] at hl ⊢; have hk : K ≤ 140737488351232 := (by omega); generalize fs.length = KF at *
  have B4 := Blk.new w [.string cnm, .string par, .slice pf KF cf, .slice pb kb cb] 34; have hb0 := ba w (.cells #[.string cnm, .string par, .slice pf KF cf, .slice pb kb cb] 34); simp only [List.toArray] at B4; obtain ⟨W0, hW0⟩ : ∃ W0, w.alloc (.cells #[.string cnm, .string par, .slice pf KF cf, .slice pb kb cb] 34) = W0 := ⟨_, rfl⟩; rw [hW0] at B4 hb0; have HB0 := Lib.hid hb0; have H4 := Lib.hid B4; clear hK hl hp hz hNm hc0 B4 hb0
  go_enter Tryz.func130, Tryz.ntmps130
  go_wp2; clear hW0; go_loopw [5] (fun i wr => ∃ j : Nat, j ≤ K ∧ i = .int .i64 j ∧ Hid ((l.take j).any (unkB fs) = false) ∧ Hid (Below w.heap.size w wr) ∧ Hid (Blk wr w.heap.size [.string cnm, .string par, .slice pf KF cf, .slice pb kb cb])) (fun i _ => K - (intOf i).toNat)
  case atStart => exact ⟨0, Nat.zero_le _, rfl, Lib.hid rfl, HB0, H4⟩
  case round =>
    obtain ⟨j, hj, rfl, FN, BW, CW⟩ := hrel; by_cases hlt : j < K
    · obtain ⟨s, hs⟩ : ∃ s, l[j]? = some s := ⟨_, List.getElem?_eq_getElem (by rw [HK.out]; exact hlt)⟩; obtain ⟨b, off, rfl, hb, hcell⟩ := HP.out (by rw [HK.out]; omega); have d0 := low_cells (BW.out.mono hN') _ _ hb _ (hcell j s hs); have c0 := CW.out.c 0 _ rfl; have c1 := CW.out.c 1 _ rfl; have c2 := CW.out.c 2 _ rfl; have c3 := CW.out.c 3 _ rfl; have hss := HZ.out s (List.mem_of_getElem? hs); have VC2 := Lib.hid (fun W (hW : Below wr.heap.size wr W) => VC.out W s (BW.out.then_ hW) hss); have AC2 := Lib.hid (fun W (hW : Below wr.heap.size wr W) => AC.out W s (BW.out.then_ hW)); have US := Lib.hid (UE.out s); have HS := Lib.hid hs; clear hcell hs hss; generalize varE fs s = E1 at *
      generalize arrE fs s = E2 at *
      have r0 := cell_regrown c0; have r1 := cell_regrown c1; have r2 := cell_regrown c2; have r3 := cell_regrown c3; have s0 := cell_regrown d0; by_cases h1 : E1 = 0
      · subst h1; have FN2 := Lib.hid (any_next HS.out (by rw [US.out]; rfl) FN.out); clear US; have X1 := reB (v := .int .i64 0) (fun W hW => VC2.out W hW); have X2 := reB (v := .int .i64 E2) (fun W hW => AC2.out W hW); go_wp2; refine wp_region_quiet_below (by kernel_rfl) (by kernel_rfl) ?_; repeat (first | go_big_quiet_step ((first | (go_at_call 103; with_reducible exact X1 _ _) | (go_at_call 104; with_reducible exact X2 _ _))) | quiet_step ((first | (go_at_call 103; with_reducible exact X1 _ _) | (go_at_call 104; with_reducible exact X2 _ _))))
        refine wpQuiet_nil ?_; intro w4 hw'; obtain ⟨pq, hw''⟩ := hw'; have HB24 : Hid (Below wr.heap.size wr w4) := Lib.hid (by rw [hw'']; exact below_regrown _ _ _); clear hw'' X1 X2 r0 r1 r2 r3 s0 c0 c1 c2 c3 d0; go_wp2; go_roundw
        case rel => exact ⟨j + 1, by omega, by go_num, FN2, Lib.hid (BW.out.then_ HB24.out), Lib.hid (CW.out.stay HB24.out)⟩
        case measure => simp [intOf]; omega
      · have f1 : (E1 != 0) = true := (by simpa using h1); by_cases h2 : E2 = 0
        · subst h2; have FN2 := Lib.hid (any_next HS.out (by rw [US.out]; simp) FN.out); clear US h1; have X1 := reB (v := .int .i64 E1) (fun W hW => VC2.out W hW); have X2 := reB (v := .int .i64 0) (fun W hW => AC2.out W hW); go_wp2; refine wp_region_quiet_below (by kernel_rfl) (by kernel_rfl) ?_; repeat (first | go_big_quiet_step ((first | (go_at_call 103; with_reducible exact X1 _ _) | (go_at_call 104; with_reducible exact X2 _ _))) | quiet_step ((first | (go_at_call 103; with_reducible exact X1 _ _) | (go_at_call 104; with_reducible exact X2 _ _))))
          refine wpQuiet_nil ?_; intro w4 hw'; obtain ⟨pq, hw''⟩ := hw'; have HB24 : Hid (Below wr.heap.size wr w4) := Lib.hid (by rw [hw'']; exact below_regrown _ _ _); clear hw'' X1 X2 r0 r1 r2 r3 s0 c0 c1 c2 c3 d0; go_wp2; go_roundw
          case rel => exact ⟨j + 1, by omega, by go_num, FN2, Lib.hid (BW.out.then_ HB24.out), Lib.hid (CW.out.stay HB24.out)⟩
          case measure => simp [intOf]; omega
        · have f2 : (E2 != 0) = true := (by simpa using h2); have FS := Lib.hid (any_at HS.out (show unkB fs s = true by rw [US.out, decide_eq_false h1, decide_eq_false h2]; rfl)); clear US h1 h2; have X1 := reB (v := .int .i64 E1) (fun W hW => VC2.out W hW); have X2 := reB (v := .int .i64 E2) (fun W hW => AC2.out W hW); go_wp2; refine wp_region_quiet_below (by kernel_rfl) (by kernel_rfl) ?_; repeat (first | go_big_quiet_step ((first | (go_at_call 103; with_reducible exact X1 _ _) | (go_at_call 104; with_reducible exact X2 _ _))) | quiet_step ((first | (go_at_call 103; with_reducible exact X1 _ _) | (go_at_call 104; with_reducible exact X2 _ _))))
          refine wpQuiet_nil ?_; intro w4 hw'; obtain ⟨pq, hw''⟩ := hw'; have HB24 : Hid (Below wr.heap.size wr w4) := Lib.hid (by rw [hw'']; exact below_regrown _ _ _); clear hw'' X1 X2 r0 r1 r2 r3 s0 c0 c1 c2 c3 d0; go_wp2; go_ret; exact ⟨by rw [FS.out]; rfl, BW.out.then_ HB24.out⟩
    · have FN2 : Hid (l.any (unkB fs) = false) := Lib.hid (by have := FN.out; rw [List.take_of_length_le (by rw [HK.out]; omega)] at this; exact this); go_wp2; go_ret; exact ⟨by rw [FN2.out]; rfl, BW.out⟩
set_option maxRecDepth 100000 in
set_option maxHeartbeats 16000000 in
theorem oneR_any (fs : List Fld) (hNm : ∀ f ∈ fs, nmB f.nm.data.toList = true) (x : It) (a4 a7 a8 a9 a10 a11 : Value) (B B' : List ByteArray) (hBB : ∀ s, memB B' s = memB B s) (cv vi : Value) (N N' : Nat) (w : World) (h : IV N w a4 a7 a8 a9 a10 a11 x) (hc : ClA N w cv fs) (hi : StA N' w vi B') (hN : N ≤ w.heap.size) (hN' : N' ≤ w.heap.size) (hsz : sz x.e ≤ 10000) :
    Calls Tryz.prog 85 #[iv x.kd x.e.op x.e.n x.e.nm a4 x.nm x.ix a7 a8 a9 a10 a11, cv, vi] w (tInt (chkI fs B x) w) := by
  have hnm := h.nm; have EX : Hid (∀ W, Below w.heap.size w W → Calls Tryz.prog 58 #[xv x.e.op x.e.n x.e.nm a4, cv, vi] W (tInt (exE fs B x.e) W)) := (Lib.hid fun W hW => askedR_any fs hNm B B' hBB x.e _ cv vi W.heap.size W ((h.ex.under (hW.mono hN)).wide (by have := hW.size; omega)) ((hc.under (hW.mono hN)).wide (by have := hW.size; omega)) ((hi.under (hW.mono hN')).wide (by have := hW.size; omega)) (Nat.le_refl _) hsz (at_names h.ex 1)); have NA : Hid (∀ W v l N2, Below w.heap.size w W → StA N2 W v l → N2 ≤ W.heap.size → Calls Tryz.prog 130 #[cv, v] W (tBool (!l.any (unkB fs)) W)) := (Lib.hid fun W v l N2 hW hl h2 => namedR_any fs hNm l cv v N N2 W (hc.under (hW.mono hN)) hl (by have := hW.size; omega) h2); have NB : Hid (∀ W, Below w.heap.size w W → Calls Tryz.prog 130 #[cv, a10] W (tBool (!x.bf.any (unkB fs)) W)) := (Lib.hid fun W hW => NA.out W a10 x.bf N hW (h.bfs.under (hW.mono hN)) (by have := hW.size; omega)); have NF : Hid (∀ W, Below w.heap.size w W → Calls Tryz.prog 130 #[cv, a11] W (tBool (!x.af.any (unkB fs)) W)) := (Lib.hid fun W hW => NA.out W a11 x.af N hW (h.afs.under (hW.mono hN)) (by have := hW.size; omega)); have AC : Hid (∀ W s, Below w.heap.size w W → Calls Tryz.prog 104 #[cv, .string s] W (tInt (arrE fs s) W)) := (Lib.hid fun W s hW => arrayR_any fs cv s N W (hc.under (hW.mono hN)) (by have := hW.size; omega)); have FC : Hid (∀ W s, Below w.heap.size w W → Calls Tryz.prog 91 #[cv, .string s] W (tFld fs s W)) := (Lib.hid fun W s hW => fieldR_any fs cv s N W (hc.under (hW.mono hN)) (by have := hW.size; omega)); have BC : Hid (∀ W s, Below w.heap.size w W → Calls Tryz.prog 39 #[vi, .string s] W fun e w' => e = .returned (.bool (memB B s)) ∧ W = w') := (Lib.hid fun W s hW => by rw [← hBB]; exact boundR_any B' vi s N' W (hi.under (hW.mono hN'))); obtain ⟨kd, o, n, en, p4, k4, c4, nm, ix, p7, k7, c7, p8, k8, c8, p9, k9, c9, p10, k10, c10, p11, k11, c11, ev, hv⟩ := h.open_; have ev2 := ev; simp only [Value.agg.injEq, Array.mk.injEq, List.cons.injEq] at ev2; obtain ⟨-, -, -, -, rfl, -, -, rfl, rfl, rfl, rfl, rfl, -⟩ := ev2; rw [ev]; obtain ⟨e0, e1, e2, e3, e5, e6, l4, l7, l8, l9, l10, l11, -⟩ := hv; rw [e1, e2, e3] at EX; rw [e5] at hnm; have CE : Hid (chkI fs B x = if kd = 3 then (if unkB fs nm = true then 7 else 0) else if kd = 6 then (if (x.bf ++ x.af).any (unkB fs) = true then 7 else 0) else if kd = 5 then (if arrE fs nm = 0 then (if ((szO fs ix).isSome || memB B ix) = true then 8 else 0) else arrE fs nm) else exE fs B x.e) := Lib.hid (by unfold chkI; rw [e0, e5, e6]); have AP : Hid ((x.bf ++ x.af).any (unkB fs) = (x.bf.any (unkB fs) || x.af.any (unkB fs))) := Lib.hid (List.any_append ..); obtain ⟨cnm, par, vf, pb, kb, cb, rfl, pf, cf, rfl, _⟩ := hc; obtain ⟨pi, ci, rfl, _⟩ := hi; clear h ev e0 e1 e2 e3 e5 e6 l4 l7 l8 l9 l10 l11 hN hN' hsz hBB hNm; generalize fs.length = KF at *
  generalize B'.length = KB at *
  generalize x.bf.any (unkB fs) = ub at *
  generalize x.af.any (unkB fs) = ua at *
  generalize (x.bf ++ x.af).any (unkB fs) = uu at *
  generalize exE fs B x.e = XE at *
  generalize chkI fs B x = R at *
  have B3 := (Blk.new w (ics kd o n en (.slice p4 k4 c4) nm ix (.slice p7 k7 c7) (.slice p8 k8 c8) (.slice p9 k9 c9) (.slice p10 k10 c10) (.slice p11 k11 c11)) 55).stay (ba _ (.cells #[.string cnm, .string par, .slice pf KF cf, .slice pb kb cb] 34)); have B4 := Blk.new (w.alloc (.cells (ics kd o n en (.slice p4 k4 c4) nm ix (.slice p7 k7 c7) (.slice p8 k8 c8) (.slice p9 k9 c9) (.slice p10 k10 c10) (.slice p11 k11 c11)).toArray 55)) [.string cnm, .string par, .slice pf KF cf, .slice pb kb cb] 34; have hb2 := (ba w (.cells (ics kd o n en (.slice p4 k4 c4) nm ix (.slice p7 k7 c7) (.slice p8 k8 c8) (.slice p9 k9 c9) (.slice p10 k10 c10) (.slice p11 k11 c11)).toArray 55)).then_ (ba _ (.cells #[.string cnm, .string par, .slice pf KF cf, .slice pb kb cb] 34)); rw [World.size_alloc] at B4; simp only [List.toArray] at B3 B4 hb2; obtain ⟨W0, hW0⟩ : ∃ W0, (w.alloc (.cells #[.int .i64 kd, .int .i64 o, .int .i64 n, .string en, .slice p4 k4 c4, .string nm, .string ix, .slice p7 k7 c7, .slice p8 k8 c8, .slice p9 k9 c9, .slice p10 k10 c10, .slice p11 k11 c11] 55)).alloc (.cells #[.string cnm, .string par, .slice pf KF cf, .slice pb kb cb] 34) = W0 := ⟨_, rfl⟩; rw [hW0] at B3 B4 hb2; have HB := Lib.hid hb2; have H3 := Lib.hid B3; have H4 := Lib.hid B4; have d0 := B3.c 0 _ rfl; have d1 := B3.c 1 _ rfl; have d2 := B3.c 2 _ rfl; have d3 := B3.c 3 _ rfl; have d4 := B3.c 4 _ rfl; have d5 := B3.c 5 _ rfl; have d6 := B3.c 6 _ rfl; have d10 := B3.c 10 _ rfl; have d11 := B3.c 11 _ rfl; have a0 := B4.c 0 _ rfl; have a1 := B4.c 1 _ rfl; have a2 := B4.c 2 _ rfl; have a3 := B4.c 3 _ rfl; clear B3 B4 hb2; by_cases h3 : kd = 3
  · subst h3; have hba := ba W0 (.cells #[.string nm] 9); have hst : StA (W0.alloc (.cells #[.string nm] 9)).heap.size (W0.alloc (.cells #[.string nm] 9)) (.slice (some ⟨W0.heap.size, 0, none⟩) 1 1) [nm] :=
      ⟨some ⟨W0.heap.size, 0, none⟩, 1, rfl, by simp, by simp, fun s hs => by simp at hs; subst hs; exact hnm, fun _ => ⟨W0.heap.size, 0, rfl, by rw [World.size_alloc]; omega, fun i s hi => by
        rcases i with _ | i
        · obtain rfl : nm = s := (by simpa using hi); have := (Blk.new W0 [.string nm] 9).c 0 _ rfl; exact this
        · simp at hi⟩⟩
    have N3 := Lib.hid (NA.out _ _ [nm] _ (HB.out.then_ hba) hst (Nat.le_refl _)); have HB1 := Lib.hid (HB.out.then_ hba); have U1 : Hid ((!([nm].any (unkB fs))) = !unkB fs nm) := Lib.hid (by simp); rw [U1.out] at N3; clear hba hst U1; generalize unkB fs nm = u at *
    cases u
    · have E : Hid (R = 0) := Lib.hid (by rw [CE.out]; rfl); clear CE AP
      go_enter Tryz.func85, Tryz.ntmps85
      go_wp2_with (first
        | (go_at_call 130; ((with_reducible refine N3.out.mono ?_); rintro e w3 ⟨rfl, hb⟩; have HB2 := Lib.hid (HB1.out.then_ hb); clear hb)))
      go_ret; exact tInt_mk E.out HB2.out
    · have E : Hid (R = 7) := Lib.hid (by rw [CE.out]; rfl); clear CE AP
      go_enter Tryz.func85, Tryz.ntmps85
      go_wp2_with (first
        | (go_at_call 130; ((with_reducible refine N3.out.mono ?_); rintro e w3 ⟨rfl, hb⟩; have HB2 := Lib.hid (HB1.out.then_ hb); clear hb)))
      go_ret; exact tInt_mk E.out HB2.out
  · have f3 : (kd == 3) = false := (by rw [beq_eq_false_iff_ne]; exact h3); by_cases h6 : kd = 6
    · subst h6; cases ub
      · cases ua
        · have E : Hid (R = 0) := Lib.hid (by rw [CE.out, AP.out]; rfl); clear CE AP
          go_enter Tryz.func85, Tryz.ntmps85
          go_wp2_with (first
            | (go_at_call 130; ((with_reducible refine (NB.out _ HB.out).mono ?_); rintro e w1 ⟨rfl, hb⟩; have HB1 := Lib.hid (HB.out.then_ hb); have F3 := H3.out.stay hb; have F4 := H4.out.stay hb; (try clear d0); (try clear d1); (try clear d2); (try clear d3); (try clear d4); (try clear d5); (try clear d6); (try clear d10); (try clear d11); (try clear a0); (try clear a1); (try clear a2); (try clear a3); have d0 := F3.c 0 _ rfl; have d5 := F3.c 5 _ rfl; have d6 := F3.c 6 _ rfl; have d10 := F3.c 10 _ rfl; have d11 := F3.c 11 _ rfl; have a0 := F4.c 0 _ rfl; have a1 := F4.c 1 _ rfl; have a2 := F4.c 2 _ rfl; have a3 := F4.c 3 _ rfl; have H31 := Lib.hid F3; have H41 := Lib.hid F4; clear F3 F4; clear hb))
            | (go_at_call 130; ((with_reducible refine (NF.out _ HB1.out).mono ?_); rintro e w2 ⟨rfl, hb⟩; have HB2 := Lib.hid (HB1.out.then_ hb); clear hb)))
          go_ret; exact tInt_mk E.out HB2.out
        · have E : Hid (R = 7) := Lib.hid (by rw [CE.out, AP.out]; rfl); clear CE AP
          go_enter Tryz.func85, Tryz.ntmps85
          go_wp2_with (first
            | (go_at_call 130; ((with_reducible refine (NB.out _ HB.out).mono ?_); rintro e w1 ⟨rfl, hb⟩; have HB1 := Lib.hid (HB.out.then_ hb); have F3 := H3.out.stay hb; have F4 := H4.out.stay hb; (try clear d0); (try clear d1); (try clear d2); (try clear d3); (try clear d4); (try clear d5); (try clear d6); (try clear d10); (try clear d11); (try clear a0); (try clear a1); (try clear a2); (try clear a3); have d0 := F3.c 0 _ rfl; have d5 := F3.c 5 _ rfl; have d6 := F3.c 6 _ rfl; have d10 := F3.c 10 _ rfl; have d11 := F3.c 11 _ rfl; have a0 := F4.c 0 _ rfl; have a1 := F4.c 1 _ rfl; have a2 := F4.c 2 _ rfl; have a3 := F4.c 3 _ rfl; have H31 := Lib.hid F3; have H41 := Lib.hid F4; clear F3 F4; clear hb))
            | (go_at_call 130; ((with_reducible refine (NF.out _ HB1.out).mono ?_); rintro e w2 ⟨rfl, hb⟩; have HB2 := Lib.hid (HB1.out.then_ hb); clear hb)))
          go_ret; exact tInt_mk E.out HB2.out
      · have E : Hid (R = 7) := Lib.hid (by rw [CE.out, AP.out]; rfl); clear CE AP
        go_enter Tryz.func85, Tryz.ntmps85
        go_wp2_with (first
          | (go_at_call 130; ((with_reducible refine (NB.out _ HB.out).mono ?_); rintro e w1 ⟨rfl, hb⟩; have HB1 := Lib.hid (HB.out.then_ hb); have F3 := H3.out.stay hb; have F4 := H4.out.stay hb; (try clear d0); (try clear d1); (try clear d2); (try clear d3); (try clear d4); (try clear d5); (try clear d6); (try clear d10); (try clear d11); (try clear a0); (try clear a1); (try clear a2); (try clear a3); have d0 := F3.c 0 _ rfl; have d5 := F3.c 5 _ rfl; have d6 := F3.c 6 _ rfl; have d10 := F3.c 10 _ rfl; have d11 := F3.c 11 _ rfl; have a0 := F4.c 0 _ rfl; have a1 := F4.c 1 _ rfl; have a2 := F4.c 2 _ rfl; have a3 := F4.c 3 _ rfl; have H31 := Lib.hid F3; have H41 := Lib.hid F4; clear F3 F4; clear hb)))
        go_ret; exact tInt_mk E.out HB1.out
    · have f6 : (kd == 6) = false := (by rw [beq_eq_false_iff_ne]; exact h6); by_cases h5 : kd = 5
      · subst h5; have A5 := Lib.hid (fun W hW => AC.out W nm hW); generalize arrE fs nm = E1 at *
        by_cases h1 : E1 = 0
        · subst h1; cases ho : szO fs ix with
          | some m =>
            have F5 : Hid (∀ W, Below w.heap.size w W → Calls Tryz.prog 91 #[.agg #[.string cnm, .string par, .slice pf KF cf, .slice pb kb cb], .string ix] W fun e w' => e = .returned (.tuple #[.int .i64 m, .bool true]) ∧ Below W.heap.size W w') := Lib.hid fun W hW => (FC.out W ix hW).mono fun e w' h => by
              unfold tFld at h; rw [szI_some ho, ho] at h; exact h
            have E : Hid (R = 8) := Lib.hid (by rw [CE.out, ho]; rfl); clear CE AP
            go_enter Tryz.func85, Tryz.ntmps85
            go_wp2_with (first
              | (go_at_call 104; ((with_reducible refine (A5.out _ HB.out).mono ?_); rintro e w1 ⟨rfl, hb⟩; have HB1 := Lib.hid (HB.out.then_ hb); have F3 := H3.out.stay hb; have F4 := H4.out.stay hb; (try clear d0); (try clear d1); (try clear d2); (try clear d3); (try clear d4); (try clear d5); (try clear d6); (try clear d10); (try clear d11); (try clear a0); (try clear a1); (try clear a2); (try clear a3); have d0 := F3.c 0 _ rfl; have d5 := F3.c 5 _ rfl; have d6 := F3.c 6 _ rfl; have d10 := F3.c 10 _ rfl; have d11 := F3.c 11 _ rfl; have a0 := F4.c 0 _ rfl; have a1 := F4.c 1 _ rfl; have a2 := F4.c 2 _ rfl; have a3 := F4.c 3 _ rfl; have H31 := Lib.hid F3; have H41 := Lib.hid F4; clear F3 F4; clear hb))
              | (go_at_call 91; ((with_reducible refine (F5.out _ HB1.out).mono ?_); rintro e w2 ⟨rfl, hb⟩; have HB2 := Lib.hid (HB1.out.then_ hb); have F3 := H31.out.stay hb; have F4 := H41.out.stay hb; (try clear d0); (try clear d1); (try clear d2); (try clear d3); (try clear d4); (try clear d5); (try clear d6); (try clear d10); (try clear d11); (try clear a0); (try clear a1); (try clear a2); (try clear a3); have d0 := F3.c 0 _ rfl; have d5 := F3.c 5 _ rfl; have d6 := F3.c 6 _ rfl; have d10 := F3.c 10 _ rfl; have d11 := F3.c 11 _ rfl; have a0 := F4.c 0 _ rfl; have a1 := F4.c 1 _ rfl; have a2 := F4.c 2 _ rfl; have a3 := F4.c 3 _ rfl; have H32 := Lib.hid F3; have H42 := Lib.hid F4; clear F3 F4; clear hb)))
            go_ret; exact tInt_mk E.out HB2.out
          | none =>
            have F5 : Hid (∀ W, Below w.heap.size w W → Calls Tryz.prog 91 #[.agg #[.string cnm, .string par, .slice pf KF cf, .slice pb kb cb], .string ix] W fun e w' => e = .returned (.tuple #[.int .i64 0, .bool false]) ∧ Below W.heap.size W w') := Lib.hid fun W hW => (FC.out W ix hW).mono fun e w' h => by
              unfold tFld at h; rw [szI_none ho, ho] at h; exact h
            have B5 := Lib.hid (fun W hW => BC.out W ix hW); generalize memB B ix = q at *
            cases q
            · have E : Hid (R = 0) := Lib.hid (by rw [CE.out, ho]; rfl); clear CE AP
              go_enter Tryz.func85, Tryz.ntmps85
              go_wp2_with (first
                | (go_at_call 104; ((with_reducible refine (A5.out _ HB.out).mono ?_); rintro e w1 ⟨rfl, hb⟩; have HB1 := Lib.hid (HB.out.then_ hb); have F3 := H3.out.stay hb; have F4 := H4.out.stay hb; (try clear d0); (try clear d1); (try clear d2); (try clear d3); (try clear d4); (try clear d5); (try clear d6); (try clear d10); (try clear d11); (try clear a0); (try clear a1); (try clear a2); (try clear a3); have d0 := F3.c 0 _ rfl; have d5 := F3.c 5 _ rfl; have d6 := F3.c 6 _ rfl; have d10 := F3.c 10 _ rfl; have d11 := F3.c 11 _ rfl; have a0 := F4.c 0 _ rfl; have a1 := F4.c 1 _ rfl; have a2 := F4.c 2 _ rfl; have a3 := F4.c 3 _ rfl; have H31 := Lib.hid F3; have H41 := Lib.hid F4; clear F3 F4; clear hb))
                | (go_at_call 91; ((with_reducible refine (F5.out _ HB1.out).mono ?_); rintro e w2 ⟨rfl, hb⟩; have HB2 := Lib.hid (HB1.out.then_ hb); have F3 := H31.out.stay hb; have F4 := H41.out.stay hb; (try clear d0); (try clear d1); (try clear d2); (try clear d3); (try clear d4); (try clear d5); (try clear d6); (try clear d10); (try clear d11); (try clear a0); (try clear a1); (try clear a2); (try clear a3); have d0 := F3.c 0 _ rfl; have d5 := F3.c 5 _ rfl; have d6 := F3.c 6 _ rfl; have d10 := F3.c 10 _ rfl; have d11 := F3.c 11 _ rfl; have a0 := F4.c 0 _ rfl; have a1 := F4.c 1 _ rfl; have a2 := F4.c 2 _ rfl; have a3 := F4.c 3 _ rfl; have H32 := Lib.hid F3; have H42 := Lib.hid F4; clear F3 F4; clear hb))
                | (go_at_call 39; ((with_reducible refine (B5.out _ HB2.out).mono ?_); rintro e w3 ⟨rfl, rfl⟩)))
              go_ret; exact tInt_mk E.out HB2.out
            · have E : Hid (R = 8) := Lib.hid (by rw [CE.out, ho]; rfl); clear CE AP
              go_enter Tryz.func85, Tryz.ntmps85
              go_wp2_with (first
                | (go_at_call 104; ((with_reducible refine (A5.out _ HB.out).mono ?_); rintro e w1 ⟨rfl, hb⟩; have HB1 := Lib.hid (HB.out.then_ hb); have F3 := H3.out.stay hb; have F4 := H4.out.stay hb; (try clear d0); (try clear d1); (try clear d2); (try clear d3); (try clear d4); (try clear d5); (try clear d6); (try clear d10); (try clear d11); (try clear a0); (try clear a1); (try clear a2); (try clear a3); have d0 := F3.c 0 _ rfl; have d5 := F3.c 5 _ rfl; have d6 := F3.c 6 _ rfl; have d10 := F3.c 10 _ rfl; have d11 := F3.c 11 _ rfl; have a0 := F4.c 0 _ rfl; have a1 := F4.c 1 _ rfl; have a2 := F4.c 2 _ rfl; have a3 := F4.c 3 _ rfl; have H31 := Lib.hid F3; have H41 := Lib.hid F4; clear F3 F4; clear hb))
                | (go_at_call 91; ((with_reducible refine (F5.out _ HB1.out).mono ?_); rintro e w2 ⟨rfl, hb⟩; have HB2 := Lib.hid (HB1.out.then_ hb); have F3 := H31.out.stay hb; have F4 := H41.out.stay hb; (try clear d0); (try clear d1); (try clear d2); (try clear d3); (try clear d4); (try clear d5); (try clear d6); (try clear d10); (try clear d11); (try clear a0); (try clear a1); (try clear a2); (try clear a3); have d0 := F3.c 0 _ rfl; have d5 := F3.c 5 _ rfl; have d6 := F3.c 6 _ rfl; have d10 := F3.c 10 _ rfl; have d11 := F3.c 11 _ rfl; have a0 := F4.c 0 _ rfl; have a1 := F4.c 1 _ rfl; have a2 := F4.c 2 _ rfl; have a3 := F4.c 3 _ rfl; have H32 := Lib.hid F3; have H42 := Lib.hid F4; clear F3 F4; clear hb))
                | (go_at_call 39; ((with_reducible refine (B5.out _ HB2.out).mono ?_); rintro e w3 ⟨rfl, rfl⟩)))
              go_ret; exact tInt_mk E.out HB2.out
        · have f1 : (E1 != 0) = true := (by simpa using h1); have E : Hid (R = E1) := Lib.hid (by rw [CE.out, if_neg (by decide), if_neg (by decide), if_pos rfl, if_neg h1]); clear CE AP
          go_enter Tryz.func85, Tryz.ntmps85
          go_wp2_with (first
            | (go_at_call 104; ((with_reducible refine (A5.out _ HB.out).mono ?_); rintro e w1 ⟨rfl, hb⟩; have HB1 := Lib.hid (HB.out.then_ hb); have F3 := H3.out.stay hb; have F4 := H4.out.stay hb; (try clear d0); (try clear d1); (try clear d2); (try clear d3); (try clear d4); (try clear d5); (try clear d6); (try clear d10); (try clear d11); (try clear a0); (try clear a1); (try clear a2); (try clear a3); have d0 := F3.c 0 _ rfl; have d5 := F3.c 5 _ rfl; have d6 := F3.c 6 _ rfl; have d10 := F3.c 10 _ rfl; have d11 := F3.c 11 _ rfl; have a0 := F4.c 0 _ rfl; have a1 := F4.c 1 _ rfl; have a2 := F4.c 2 _ rfl; have a3 := F4.c 3 _ rfl; have H31 := Lib.hid F3; have H41 := Lib.hid F4; clear F3 F4; clear hb)))
          go_ret; exact tInt_mk E.out HB1.out
      · have f5 : (kd == 5) = false := (by rw [beq_eq_false_iff_ne]; exact h5); have E : Hid (R = XE) := Lib.hid (by rw [CE.out, if_neg h3, if_neg h6, if_neg h5]); clear CE AP
        go_enter Tryz.func85, Tryz.ntmps85
        go_wp2_with (first
          | (go_at_call 58; ((with_reducible refine (EX.out _ HB.out).mono ?_); rintro e w1 ⟨rfl, hb⟩; have HB1 := Lib.hid (HB.out.then_ hb); clear hb)))
        go_ret; exact tInt_mk E.out HB1.out
end Go.Proofs.YtpejflgdehioaaaGreatDoor.ItW
