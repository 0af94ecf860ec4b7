/-
  The parser's methods for names and numbers; node.
-/
import Derived.Test.YtlnomiiphlbamaaGreatDoorEtPar
namespace Go.Proofs.YtlnomiiphlbamaaGreatDoor.EtW
open Go Go.RowKit Go.Proofs.YtlnomiiphlbamaaGreatDoor.NumM Go.Proofs.YtlnomiiphlbamaaGreatDoor.LexW Go.Proofs.YtlnomiiphlbamaaGreatDoor.LexM Go.Proofs.YtlnomiiphlbamaaGreatDoor.ExM Go.Proofs.YtlnomiiphlbamaaGreatDoor.ExW Go.Proofs.YtlnomiiphlbamaaGreatDoor.EtM

set_option maxRecDepth 100000 in
set_option maxHeartbeats 4000000 in
theorem name_yes {L : List Tk} {sl : Value} {w0 : World} (hc : Cx L sl w0) {r : List Tk} {w : World} (h : In L sl w0 r w) (hk : kd r = 1) (hr : 0 < r.length) :
    Calls Tryz.prog 128 #[.pointer (some ⟨w0.heap.size, 0, none⟩)] w (tIn L sl w0 r.tail w (.string (bs (tx r)))) := by
  have hS : Six w w0.heap.size _ _ _ _ _ _ := h.blk
  have c2 := hS.c2
  have c3 := hS.c3
  have c4 := hS.c4
  have c5 := hS.c5
  have lt := h.lt
  have hp := pos_le r hc.len
  have hkk : (hdT r).kind = 1 := hk
  rw [hkk] at c2
  show Calls _ _ _ _ (tIn L sl w0 r.tail w (.string (bs (hdT r).text)))
  obtain ⟨tn, htn⟩ : ∃ x, (hdT r).n = x := ⟨_, rfl⟩
  obtain ⟨tt, htt⟩ : ∃ x, bs (hdT r).text = x := ⟨_, rfl⟩
  obtain ⟨tl, htl⟩ : ∃ x, (hdT r).line = x := ⟨_, rfl⟩
  rw [htn] at c3
  rw [htt] at c4 ⊢
  rw [htl] at c5
  have hA := h.alloc (.cells #[.int .i64 1, .int .i64 tn, .string tt, .int .i64 tl] 41)
  have MC := Lib.hid (step_any hc hA hr)
  have F0 := Four.new w (.int .i64 1) (.int .i64 tn) (.string tt) (.int .i64 tl) 41
  have d0 := F0.c0
  have d1 := F0.c1
  have d2 := F0.c2
  have d3 := F0.c3
  have hSA : Six _ w0.heap.size _ _ _ _ _ _ := hA.blk
  have b1 := hSA.c1
  have HF := Lib.hid F0
  have HT : Hid (Tn w0 w (w.alloc (.cells #[.int .i64 1, .int .i64 tn, .string tt, .int .i64 tl] 41))) := Lib.hid (tn_below ((Below.refl _ _).alloc (Nat.le_refl _) _))
  clear hS hSA hkk htn htt htl hk h hA F0
  generalize pos L r = k at *
  unfold tIn at MC ⊢
  unfold Tn at *
  generalize w0.heap.size = B at *
  go_enter Tryz.func128, Tryz.ntmps128
  go_wp2_with (go_at_call 46; ((with_reducible refine MC.out.mono ?_); rintro e w2 ⟨rfl, hb⟩; have HB := Lib.hid hb; have F2 := four_grown HF.out hb.1 (fun e => by have := Option.some.inj e; omega); have g0 := F2.c0; have g1 := F2.c1; have g2 := F2.c2; have g3 := F2.c3; clear hb F2 c2 c3 c4 c5 b1 d0 d1 d2 d3))
  go_ret
  exact ⟨rfl, HT.out.trans HB.out.1, HB.out.2⟩
set_option maxRecDepth 100000 in
set_option maxHeartbeats 4000000 in
theorem name_no {L : List Tk} {sl : Value} {w0 : World} (hc : Cx L sl w0) {r : List Tk} {w : World} (h : In L sl w0 r w) (hk : kd r ≠ 1) :
    Calls Tryz.prog 128 #[.pointer (some ⟨w0.heap.size, 0, none⟩)] w (tBad L w0 (fErr r) r.length w) := by
  have hS : Six w w0.heap.size _ _ _ _ _ _ := h.blk
  have c2 := hS.c2
  have c3 := hS.c3
  have c4 := hS.c4
  have c5 := hS.c5
  obtain ⟨tk, htk⟩ : ∃ x, (hdT r).kind = x := ⟨_, rfl⟩
  obtain ⟨tn, htn⟩ : ∃ x, (hdT r).n = x := ⟨_, rfl⟩
  obtain ⟨tt, htt⟩ : ∃ x, bs (hdT r).text = x := ⟨_, rfl⟩
  obtain ⟨tl, htl⟩ : ∃ x, (hdT r).line = x := ⟨_, rfl⟩
  have hkk : (tk == 1) = false := by rw [beq_eq_false_iff_ne, ← htk]; exact hk
  have hkn : (tk != 1) = true := by rw [bne, hkk]; rfl
  rw [htk] at c2
  rw [htn] at c3
  rw [htt] at c4
  rw [htl] at c5
  have hA := h.alloc (.cells #[.int .i64 tk, .int .i64 tn, .string tt, .int .i64 tl] 41)
  have FC := Lib.hid (fault_any hc r _ hA)
  have F0 := Four.new w (.int .i64 tk) (.int .i64 tn) (.string tt) (.int .i64 tl) 41
  have d0 := F0.c0
  have HT : Hid (Below w.heap.size w (w.alloc (.cells #[.int .i64 tk, .int .i64 tn, .string tt, .int .i64 tl] 41))) := Lib.hid ((Below.refl _ _).alloc (Nat.le_refl _) _)
  clear hS htk htn htt htl hk h hA F0
  show Calls _ _ _ _ (fun e w' => e = pan (fErr r) (pos L r) ∧ Tn w0 w w')
  generalize pos L r = k at *
  generalize fErr r = er at *
  unfold Tn
  generalize w0.heap.size = B at *
  go_enter Tryz.func128, Tryz.ntmps128
  go_wp2_with (go_at_call 25; ((with_reducible refine FC.out.mono ?_); rintro e w2 ⟨rfl, hb⟩; have HB := Lib.hid hb; clear hb))
  exact ⟨rfl, rfl, gbel (HT.out.then_ HB.out) B⟩
set_option maxRecDepth 100000 in
set_option maxHeartbeats 4000000 in
theorem number_yes {L : List Tk} {sl : Value} {w0 : World} (hc : Cx L sl w0) {r : List Tk} {w : World} (h : In L sl w0 r w) (hk : kd r = 3) (hn : nmr r ≤ 65535) (hr : 0 < r.length) :
    Calls Tryz.prog 126 #[.pointer (some ⟨w0.heap.size, 0, none⟩)] w (tIn L sl w0 r.tail w (.int .i64 (nmr r))) := by
  have hS : Six w w0.heap.size _ _ _ _ _ _ := h.blk
  have c2 := hS.c2
  have c3 := hS.c3
  have c4 := hS.c4
  have c5 := hS.c5
  have lt := h.lt
  have hp := pos_le r hc.len
  have hkk : (hdT r).kind = 3 := hk
  rw [hkk] at c2
  change (hdT r).n ≤ 65535 at hn
  show Calls _ _ _ _ (tIn L sl w0 r.tail w (.int .i64 (hdT r).n))
  obtain ⟨tn, htn⟩ : ∃ x, (hdT r).n = x := ⟨_, rfl⟩
  obtain ⟨tt, htt⟩ : ∃ x, bs (hdT r).text = x := ⟨_, rfl⟩
  obtain ⟨tl, htl⟩ : ∃ x, (hdT r).line = x := ⟨_, rfl⟩
  rw [htn] at c3 hn ⊢
  rw [htt] at c4
  rw [htl] at c5
  have hA := h.alloc (.cells #[.int .i64 3, .int .i64 tn, .string tt, .int .i64 tl] 41)
  have MC := Lib.hid (step_any hc hA hr)
  have F0 := Four.new w (.int .i64 3) (.int .i64 tn) (.string tt) (.int .i64 tl) 41
  have d0 := F0.c0
  have d1 := F0.c1
  have d2 := F0.c2
  have d3 := F0.c3
  have hSA : Six _ w0.heap.size _ _ _ _ _ _ := hA.blk
  have b1 := hSA.c1
  have HF := Lib.hid F0
  have HT : Hid (Tn w0 w (w.alloc (.cells #[.int .i64 3, .int .i64 tn, .string tt, .int .i64 tl] 41))) := Lib.hid (tn_below ((Below.refl _ _).alloc (Nat.le_refl _) _))
  have hn' : ¬ 65535 < tn := by omega
  clear hS hSA hkk htn htt htl hk h hA F0
  generalize pos L r = k at *
  unfold tIn at MC ⊢
  unfold Tn at *
  generalize w0.heap.size = B at *
  go_enter Tryz.func126, Tryz.ntmps126
  go_wp2_with (go_at_call 46; ((with_reducible refine MC.out.mono ?_); rintro e w2 ⟨rfl, hb⟩; have HB := Lib.hid hb; have F2 := four_grown HF.out hb.1 (fun e => by have := Option.some.inj e; omega); have g0 := F2.c0; have g1 := F2.c1; have g2 := F2.c2; have g3 := F2.c3; clear hb F2 c2 c3 c4 c5 b1 d0 d1 d2 d3))
  go_ret
  exact ⟨rfl, HT.out.trans HB.out.1, HB.out.2⟩
set_option maxRecDepth 100000 in
set_option maxHeartbeats 4000000 in
theorem number_big {L : List Tk} {sl : Value} {w0 : World} {r : List Tk} {w : World} (h : In L sl w0 r w) (hk : kd r = 3) (hn : 65535 < nmr r) :
    Calls Tryz.prog 126 #[.pointer (some ⟨w0.heap.size, 0, none⟩)] w (tBad L w0 3 r.length w) := by
  have hS : Six w w0.heap.size _ _ _ _ _ _ := h.blk
  have c2 := hS.c2
  have c3 := hS.c3
  have c4 := hS.c4
  have c5 := hS.c5
  have hkk : (hdT r).kind = 3 := hk
  rw [hkk] at c2
  change 65535 < (hdT r).n at hn
  obtain ⟨tn, htn⟩ : ∃ x, (hdT r).n = x := ⟨_, rfl⟩
  obtain ⟨tt, htt⟩ : ∃ x, bs (hdT r).text = x := ⟨_, rfl⟩
  obtain ⟨tl, htl⟩ : ∃ x, (hdT r).line = x := ⟨_, rfl⟩
  rw [htn] at c3 hn
  rw [htt] at c4
  rw [htl] at c5
  have hA := h.alloc (.cells #[.int .i64 3, .int .i64 tn, .string tt, .int .i64 tl] 41)
  have F0 := Four.new w (.int .i64 3) (.int .i64 tn) (.string tt) (.int .i64 tl) 41
  have d0 := F0.c0
  have d1 := F0.c1
  have hSA : Six _ w0.heap.size _ _ _ _ _ _ := hA.blk
  have b1 := hSA.c1
  have HT : Hid (Below w.heap.size w (w.alloc (.cells #[.int .i64 3, .int .i64 tn, .string tt, .int .i64 tl] 41))) := Lib.hid ((Below.refl _ _).alloc (Nat.le_refl _) _)
  clear hS hSA hkk htn htt htl hk h hA F0
  show Calls _ _ _ _ (fun e w' => e = pan 3 (pos L r) ∧ Tn w0 w w')
  generalize pos L r = k at *
  unfold Tn
  generalize w0.heap.size = B at *
  go_enter Tryz.func126, Tryz.ntmps126
  go_wp2
  exact ⟨rfl, rfl, gbel HT.out B⟩
set_option maxRecDepth 100000 in
set_option maxHeartbeats 4000000 in
theorem number_no {L : List Tk} {sl : Value} {w0 : World} (hc : Cx L sl w0) {r : List Tk} {w : World} (h : In L sl w0 r w) (hk : kd r ≠ 3) :
    Calls Tryz.prog 126 #[.pointer (some ⟨w0.heap.size, 0, none⟩)] w (tBad L w0 (fErr r) r.length w) := by
  have hS : Six w w0.heap.size _ _ _ _ _ _ := h.blk
  have c2 := hS.c2
  have c3 := hS.c3
  have c4 := hS.c4
  have c5 := hS.c5
  obtain ⟨tk, htk⟩ : ∃ x, (hdT r).kind = x := ⟨_, rfl⟩
  obtain ⟨tn, htn⟩ : ∃ x, (hdT r).n = x := ⟨_, rfl⟩
  obtain ⟨tt, htt⟩ : ∃ x, bs (hdT r).text = x := ⟨_, rfl⟩
  obtain ⟨tl, htl⟩ : ∃ x, (hdT r).line = x := ⟨_, rfl⟩
  have hkk : (tk == 3) = false := by rw [beq_eq_false_iff_ne, ← htk]; exact hk
  have hkn : (tk != 3) = true := by rw [bne, hkk]; rfl
  rw [htk] at c2
  rw [htn] at c3
  rw [htt] at c4
  rw [htl] at c5
  have hA := h.alloc (.cells #[.int .i64 tk, .int .i64 tn, .string tt, .int .i64 tl] 41)
  have FC := Lib.hid (fault_any hc r _ hA)
  have F0 := Four.new w (.int .i64 tk) (.int .i64 tn) (.string tt) (.int .i64 tl) 41
  have d0 := F0.c0
  have HT : Hid (Below w.heap.size w (w.alloc (.cells #[.int .i64 tk, .int .i64 tn, .string tt, .int .i64 tl] 41))) := Lib.hid ((Below.refl _ _).alloc (Nat.le_refl _) _)
  clear hS htk htn htt htl hk h hA F0
  show Calls _ _ _ _ (fun e w' => e = pan (fErr r) (pos L r) ∧ Tn w0 w w')
  generalize pos L r = k at *
  generalize fErr r = er at *
  unfold Tn
  generalize w0.heap.size = B at *
  go_enter Tryz.func126, Tryz.ntmps126
  go_wp2_with (go_at_call 25; ((with_reducible refine FC.out.mono ?_); rintro e w2 ⟨rfl, hb⟩; have HB := Lib.hid hb; clear hb))
  exact ⟨rfl, rfl, gbel (HT.out.then_ HB.out) B⟩
set_option maxRecDepth 100000 in
theorem node_any (o : Int) (p : Option Addr) (n cap : Nat) (w : World) :
    Calls Tryz.prog 50 #[.int .i64 o, .slice p n cap] w fun e w' => e = .returned (xv o 0 ⟨#[]⟩ (.slice p n cap)) ∧ Below w.heap.size w w' := by
  have F0 := Four.new w (.int .i64 o) (.int .i64 0) (.string ⟨#[]⟩) (.slice p n cap) 24
  have r0 := F0.c0
  have r1 := F0.c1
  have r2 := F0.c2
  have r3 := F0.c3
  have HBP := Lib.hid ((Below.refl w.heap.size w).alloc (Nat.le_refl _) (.cells #[.int .i64 o, .int .i64 0, .string ⟨#[]⟩, .slice p n cap] 24))
  clear F0
  go_enter Tryz.func50, Tryz.ntmps50
  go_wp2
  exact bodyPost_ret (v := xv o 0 ⟨#[]⟩ (.slice p n cap)) (by simp [results, Tryz.results50, go_sem, r0, r1, r2, r3]) rfl ⟨rfl, HBP.out⟩
end Go.Proofs.YtlnomiiphlbamaaGreatDoor.EtW
