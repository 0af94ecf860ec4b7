/-
  The parser's recursive methods: primary.
-/
import Derived.Test.YtlnomiiphlbamaaGreatDoorEtRec
import Derived.Test.YtlnomiiphlbamaaGreatDoorExKids
namespace Go.Proofs.YtlnomiiphlbamaaGreatDoor.EtW
open Go Go.RowKit Go.Proofs.YtlnomiiphlbamaaGreatDoor.NumM Go.Proofs.YtlnomiiphlbamaaGreatDoor.LexW Go.Proofs.YtlnomiiphlbamaaGreatDoor.LexM Go.Proofs.YtlnomiiphlbamaaGreatDoor.ExM Go.Proofs.YtlnomiiphlbamaaGreatDoor.ExW Go.Proofs.YtlnomiiphlbamaaGreatDoor.EtM

theorem hd_mem {L r : List Tk} (h : r = L.drop (pos L r) ∧ r.length ≤ L.length) (hr : 0 < r.length) : hdT r ∈ L := List.mem_of_getElem? (hd_at h hr)
theorem num_pos {L : List Tk} {sl : Value} {w0 : World} (hc : Cx L sl w0) {r : List Tk} (hs : r = L.drop (pos L r) ∧ r.length ≤ L.length) (hk : kd r = 3) : 0 ≤ nmr r := by
  have hr := kd_pos hk (by decide)
  have hv := valid_iff.1 (hc.val _ (hd_mem hs hr))
  have hk' : (hdT r).kind = 3 := hk
  rcases kind_iff hv with ⟨a, _⟩ | ⟨a, _⟩ | ⟨_, b, _⟩ | ⟨a, _⟩
  · rw [hk'] at a; cases a
  · rw [hk'] at a; cases a
  · exact b
  · rw [hk'] at a; cases a
theorem fr_leaf {lo : Nat} {w : World} {o n : Int} {s : ByteArray} (hs : s.size ≤ 140737488351232) : Fr lo w (xv o n s (.slice none 0 0)) (.mk o n s []) := ExS.leaf hs
set_option maxRecDepth 100000 in
set_option maxHeartbeats 16000000 in
theorem primary_any {L : List Tk} {sl : Value} {w0 : World} (hc : Cx L sl w0) (f : Nat) (IC : Ct L sl w0 f .ch 24 #[pp w0]) (IN : ∀ s : List UInt8, s.length ≤ 16384 → Ct L sl w0 f (.nm s) 127 #[pp w0, .string (bs s)]) :
    Ct L sl w0 (f + 1) .pr 115 #[pp w0] := by
  intro r w h hne
  rw [run] at hne ⊢
  have lt := h.lt
  have hA := h.alloc (.cells #[.int .i64 0, .int .i64 0, .string ⟨#[]⟩, .slice none 0 0] 24)
  have HTA : Hid (Tn w0 w (w.alloc (.cells #[.int .i64 0, .int .i64 0, .string ⟨#[]⟩, .slice none 0 0] 24))) := Lib.hid (tn_alloc _ _ _)
  have F0 := Lib.hid (Four.new w (.int .i64 0) (.int .i64 0) (.string ⟨#[]⟩) (.slice none 0 0) 24)
  have hSA : Six _ w0.heap.size _ _ _ _ _ _ := hA.blk
  have b2 := hSA.c2
  have b3 := hSA.c3
  have b4 := hSA.c4
  have b5 := hSA.c5
  have hs := h.suf
  by_cases k3 : kd r = 3
  · rw [if_pos k3] at hne ⊢
    have hr := kd_pos k3 (by decide)
    have hkk : (hdT r).kind = 3 := k3
    rw [hkk] at b2
    unfold numR
    rw [if_pos k3]
    by_cases kb : 65535 < nmr r
    · rw [if_pos kb]
      show Calls _ _ _ _ (tBad L w0 3 r.length w)
      have NC := Lib.hid (number_big hA k3 kb)
      clear hne h hA hSA hs k3 kb hkk
      go_enter Tryz.func115, Tryz.ntmps115
      go_wp2_with (go_at_call 126; ((with_reducible refine NC.out.mono ?_); rintro e w3 ⟨rfl, hT⟩; have HT3 := Lib.hid (HTA.out.then_ hT); clear hT))
      exact ⟨rfl, rfl, HT3.out⟩
    · rw [if_neg kb]
      show Calls _ _ _ _ (tOk L sl w0 r.tail (.mk 1 (nmr r) ⟨#[]⟩ []) w)
      have NC := Lib.hid (number_yes hc hA k3 (by omega) hr)
      clear hne h hA hSA hs k3 kb hkk
      generalize nmr r = nn at *
      go_enter Tryz.func115, Tryz.ntmps115
      go_wp2_with (go_at_call 126; ((with_reducible refine NC.out.mono ?_); rintro e w3 ⟨rfl, hT, hI⟩; have HT3 := Lib.hid (HTA.out.then_ hT); have HI3 := Lib.hid hI; have FZ := Lib.hid (four_turn F0.out hT lt); have d0 := FZ.out.c0; have d1 := FZ.out.c1; have d2 := FZ.out.c2; have d3 := FZ.out.c3; have y0 := FZ.out.f0; have y1 := FZ.out.f1; have y2 := FZ.out.f2; have y3 := FZ.out.f3; clear hT hI))
      have hP := FZ.out.put (.int .i64 1) (.int .i64 nn) (.string ⟨#[]⟩) (.slice none 0 0)
      have r0 := hP.c0
      have r1' := hP.c1
      have r2' := hP.c2
      have r3 := hP.c3
      clear hP
      go_wp2
      refine bodyPost_ret (v := .agg #[.int .i64 1, .int .i64 nn, .string ⟨#[]⟩, .slice none 0 0]) (by simp [results, Tryz.results115, go_sem, r0, r1', r2', r3]) rfl ?_
      exact done_box lt (HT3.out) (HI3.out) (fr_leaf (by decide))
  · rw [if_neg k3] at hne ⊢
    obtain ⟨tk, htk⟩ : ∃ x, (hdT r).kind = x := ⟨_, rfl⟩
    have e3 : (tk == 3) = false := by rw [beq_eq_false_iff_ne, ← htk]; exact k3
    by_cases k1 : kd r = 1
    · rw [if_pos k1] at hne ⊢
      have hr := kd_pos k1 (by decide)
      have hkk : (hdT r).kind = 1 := k1
      rw [hkk] at b2
      have NC := Lib.hid (name_yes hc hA k1 hr)
      have hlen := hc.tlen _ (hd_mem hs hr)
      rcases h1 : run f (.nm (tx r)) r.tail with ⟨x, r1⟩ | ⟨er, k⟩ | _
      · show Calls _ _ _ _ (tOk L sl w0 r1 x w)
        have MC : Hid (∀ W, In L sl w0 r.tail W → Calls Tryz.prog 127 #[pp w0, .string (bs (tx r))] W (tOk L sl w0 r1 x W)) := Lib.hid fun W hW => (IN (tx r) hlen).ok hW h1
        clear hne h hA hSA hs k3 k1 hkk h1 e3 htk hlen
        generalize bs (tx r) = S at *
        go_enter Tryz.func115, Tryz.ntmps115
        go_wp2_with (first
          | (go_at_call 128; ((with_reducible refine NC.out.mono ?_); rintro e w3 ⟨rfl, hT, hI⟩; have HT3 := Lib.hid (HTA.out.then_ hT); have l3 := hT.size; rw [World.size_alloc] at l3; have HI3 := Lib.hid hI; have F3 := Lib.hid (four_turn F0.out hT lt); clear hT hI))
          | (go_at_call 127; ((with_reducible refine (MC.out _ HI3.out).mono ?_); rintro e w5 ⟨o5, n5, s5, p5, k5, c5, rfl, hT, hI, hF⟩; have HT5 := Lib.hid (HT3.out.then_ hT); have HI5 := Lib.hid hI; have FZ := Lib.hid (four_turn F3.out hT lt); have d0 := FZ.out.c0; have d1 := FZ.out.c1; have d2 := FZ.out.c2; have d3 := FZ.out.c3; have y0 := FZ.out.f0; have y1 := FZ.out.f1; have y2 := FZ.out.f2; have y3 := FZ.out.f3; have X5 := Lib.hid (Fr.low (lo' := w.heap.size + 1) hF (by omega)); clear hT hI hF)))
        have hP := FZ.out.put (.int .i64 o5) (.int .i64 n5) (.string s5) (.slice p5 k5 c5)
        have r0 := hP.c0
        have r1' := hP.c1
        have r2' := hP.c2
        have r3 := hP.c3
        clear hP
        go_wp2
        refine bodyPost_ret (v := .agg #[.int .i64 o5, .int .i64 n5, .string s5, .slice p5 k5 c5]) (by simp [results, Tryz.results115, go_sem, r0, r1', r2', r3]) rfl ?_
        exact done_box lt (HT5.out) (HI5.out) (X5.out)
      · show Calls _ _ _ _ (tBad L w0 er k w)
        have MC : Hid (∀ W, In L sl w0 r.tail W → Calls Tryz.prog 127 #[pp w0, .string (bs (tx r))] W (tBad L w0 er k W)) := Lib.hid fun W hW => (IN (tx r) hlen).bad hW h1
        clear hne h hA hSA hs k3 k1 hkk h1 e3 htk hlen
        generalize bs (tx r) = S at *
        go_enter Tryz.func115, Tryz.ntmps115
        go_wp2_with (first
          | (go_at_call 128; ((with_reducible refine NC.out.mono ?_); rintro e w3 ⟨rfl, hT, hI⟩; have HT3 := Lib.hid (HTA.out.then_ hT); have HI3 := Lib.hid hI; clear hT hI))
          | (go_at_call 127; ((with_reducible refine (MC.out _ HI3.out).mono ?_); rintro e w5 ⟨rfl, hT⟩; have HT5 := Lib.hid (HT3.out.then_ hT); clear hT)))
        exact ⟨rfl, rfl, HT5.out⟩
      · exact absurd h1 hne
    · rw [if_neg k1] at hne ⊢
      have e1 : (tk == 1) = false := by rw [beq_eq_false_iff_ne, ← htk]; exact k1
      rw [htk] at b2
      by_cases q1 : tx r = [40]
      · have hr := tx_pos q1 (by decide)
        unfold need at hne ⊢
        rw [if_pos q1] at hne ⊢
        change (run f .ch r.tail).bind _ ≠ _ at hne
        show Calls _ _ _ _ (tRs L sl w0 ((run f .ch r.tail).bind _) w)
        have NC := Lib.hid (need_yes' hc hA ⟨#[40]⟩ q1 hr)
        rcases h1 : run f .ch r.tail with ⟨x, r1⟩ | ⟨er, k⟩ | _
        · rw [bok]
          have CC : Hid (∀ W, In L sl w0 r.tail W → Calls Tryz.prog 24 #[pp w0] W (tOk L sl w0 r1 x W)) := Lib.hid fun W hW => IC.ok hW h1
          by_cases q2 : tx r1 = [41]
          · have hr1 := tx_pos q2 (by decide)
            rw [if_pos q2]
            show Calls _ _ _ _ (tOk L sl w0 r1.tail x w)
            clear hne h hA hSA hs k3 k1 h1 htk
            go_enter Tryz.func115, Tryz.ntmps115
            go_wp2_with (first
              | (go_at_call 49; ((with_reducible refine NC.out.mono ?_); rintro e w3 ⟨rfl, hT, hI⟩; have HT3 := Lib.hid (HTA.out.then_ hT); have l3 := hT.size; rw [World.size_alloc] at l3; have HI3 := Lib.hid hI; have F3 := Lib.hid (four_turn F0.out hT lt); clear hT hI))
              | (go_at_call 24; ((with_reducible refine (CC.out _ HI3.out).mono ?_); rintro e w5 ⟨o5, n5, s5, p5, k5, c5, rfl, hT, hI, hF⟩; have HT5 := Lib.hid (HT3.out.then_ hT); have l5 := hT.size; have I6 := Lib.hid (hI.alloc (.cells #[.int .i64 o5, .int .i64 n5, .string s5, .slice p5 k5 c5] 24)); have F6 := Lib.hid ((four_turn F3.out hT lt).alloc (.cells #[.int .i64 o5, .int .i64 n5, .string s5, .slice p5 k5 c5] 24)); have D6 := Lib.hid (Four.new w5 (.int .i64 o5) (.int .i64 n5) (.string s5) (.slice p5 k5 c5) 24); have X6 := Lib.hid (fr_alloc hF (.cells #[.int .i64 o5, .int .i64 n5, .string s5, .slice p5 k5 c5] 24)); have NC2 := Lib.hid (need_yes' hc I6.out ⟨#[41]⟩ q2 hr1); clear hT hI hF NC))
              | (go_at_call 49; ((with_reducible refine NC2.out.mono ?_); rintro e w7 ⟨rfl, hT, hI⟩; have HT7 := Lib.hid ((HT5.out.then_ (tn_alloc _ _ _)).then_ hT); have HI7 := Lib.hid hI; have FZ := Lib.hid (four_turn F6.out hT lt); have D7 := four_turn D6.out hT (by omega); have g0 := D7.c0; have g1 := D7.c1; have g2 := D7.c2; have g3 := D7.c3; have d0 := FZ.out.c0; have d1 := FZ.out.c1; have d2 := FZ.out.c2; have d3 := FZ.out.c3; have y0 := FZ.out.f0; have y1 := FZ.out.f1; have y2 := FZ.out.f2; have y3 := FZ.out.f3; have X7 := Lib.hid (Fr.low (lo' := w.heap.size + 1) (fr_turn X6.out hT (by omega)) (by omega)); clear hT hI D7)))
            have hP := FZ.out.put (.int .i64 o5) (.int .i64 n5) (.string s5) (.slice p5 k5 c5)
            have r0 := hP.c0
            have r1' := hP.c1
            have r2' := hP.c2
            have r3 := hP.c3
            clear hP
            go_wp2
            refine bodyPost_ret (v := .agg #[.int .i64 o5, .int .i64 n5, .string s5, .slice p5 k5 c5]) (by simp [results, Tryz.results115, go_sem, r0, r1', r2', r3]) rfl ?_
            exact done_box lt (HT7.out) (HI7.out) (X7.out)
          · rw [if_neg q2]
            show Calls _ _ _ _ (tBad L w0 (fErr r1) r1.length w)
            clear hne h hA hSA hs k3 k1 h1 htk
            go_enter Tryz.func115, Tryz.ntmps115
            go_wp2_with (first
              | (go_at_call 49; ((with_reducible refine NC.out.mono ?_); rintro e w3 ⟨rfl, hT, hI⟩; have HT3 := Lib.hid (HTA.out.then_ hT); have HI3 := Lib.hid hI; clear hT hI))
              | (go_at_call 24; ((with_reducible refine (CC.out _ HI3.out).mono ?_); rintro e w5 ⟨o5, n5, s5, p5, k5, c5, rfl, hT, hI, hF⟩; have HT5 := Lib.hid (HT3.out.then_ hT); have I6 := Lib.hid (hI.alloc (.cells #[.int .i64 o5, .int .i64 n5, .string s5, .slice p5 k5 c5] 24)); have NC2 := Lib.hid (need_no' hc I6.out ⟨#[41]⟩ q2); clear hT hI hF NC))
              | (go_at_call 49; ((with_reducible refine NC2.out.mono ?_); rintro e w7 ⟨rfl, hT⟩; have HT7 := Lib.hid ((HT5.out.then_ (tn_alloc _ _ _)).then_ hT); clear hT)))
            exact ⟨rfl, rfl, HT7.out⟩
        · show Calls _ _ _ _ (tBad L w0 er k w)
          have CC : Hid (∀ W, In L sl w0 r.tail W → Calls Tryz.prog 24 #[pp w0] W (tBad L w0 er k W)) := Lib.hid fun W hW => IC.bad hW h1
          clear hne h hA hSA hs k3 k1 h1 htk
          go_enter Tryz.func115, Tryz.ntmps115
          go_wp2_with (first
            | (go_at_call 49; ((with_reducible refine NC.out.mono ?_); rintro e w3 ⟨rfl, hT, hI⟩; have HT3 := Lib.hid (HTA.out.then_ hT); have HI3 := Lib.hid hI; clear hT hI))
            | (go_at_call 24; ((with_reducible refine (CC.out _ HI3.out).mono ?_); rintro e w5 ⟨rfl, hT⟩; have HT5 := Lib.hid (HT3.out.then_ hT); clear hT)))
          exact ⟨rfl, rfl, HT5.out⟩
        · rw [h1] at hne; exact absurd rfl hne
      · unfold need
        rw [if_neg q1]
        show Calls _ _ _ _ (tBad L w0 (fErr r) r.length w)
        have NC := Lib.hid (need_no' hc hA ⟨#[40]⟩ q1)
        clear hne h hA hSA hs k3 k1 htk
        go_enter Tryz.func115, Tryz.ntmps115
        go_wp2_with (go_at_call 49; ((with_reducible refine NC.out.mono ?_); rintro e w3 ⟨rfl, hT⟩; have HT3 := Lib.hid (HTA.out.then_ hT); clear hT))
        exact ⟨rfl, rfl, HT3.out⟩
end Go.Proofs.YtlnomiiphlbamaaGreatDoor.EtW
