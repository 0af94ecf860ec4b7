/-
  The parser's recursive methods: prefixed, primary.
-/
import Derived.Test.YtlnomiiphlbamaaGreatDoorEtRec
namespace Go.Proofs.YtlnomiiphlbamaaGreatDoor.EtW
open Go Go.RowKit Go.Proofs.YtlnomiiphlbamaaGreatDoor.NumM Go.Proofs.YtlnomiiphlbamaaGreatDoor.LexW Go.Proofs.YtlnomiiphlbamaaGreatDoor.LexM Go.Proofs.YtlnomiiphlbamaaGreatDoor.ExM Go.Proofs.YtlnomiiphlbamaaGreatDoor.ExW Go.Proofs.YtlnomiiphlbamaaGreatDoor.EtM

theorem duo_far1 {w : World} {g b : Nat} {x0 x1 : Value} (h : Duo w g x0 x1) (hn : g ≠ b) (y0 y1 y2 y3 : Value) : ((((w.setCell ⟨b, 0, none⟩ y0).setCell ⟨b, 1, none⟩ y1).setCell ⟨b, 2, none⟩ y2).setCell ⟨b, 3, none⟩ y3).cell? ⟨g, 1, none⟩ = some x1 := by
  have far : ∀ (W : World) (o : Nat) (v : Value), (W.setCell ⟨b, o, none⟩ v).cell? ⟨g, 1, none⟩ = W.cell? ⟨g, 1, none⟩ := fun W o v => World.cell?_setCell_other _ _ _ _ (fun e => hn (congrArg Addr.block e).symm)
  rw [far, far, far, far]; exact h.c1
set_option maxRecDepth 100000 in
set_option maxHeartbeats 16000000 in
theorem prefixed_any {L : List Tk} {sl : Value} {w0 : World} (hc : Cx L sl w0) (f : Nat) (IP : Ct L sl w0 f .pf 87 #[pp w0]) (IR : Ct L sl w0 f .pr 115 #[pp w0]) :
    Ct L sl w0 (f + 1) .pf 87 #[pp w0] := by
  intro r w h hne
  rw [run] at hne ⊢
  have lt := h.lt
  have hA := h.alloc (.cells #[.int .i64 0, .int .i64 0, .string ⟨#[]⟩, .slice none 0 0] 24)
  have HTA : Hid (Tn w0 w (w.alloc (.cells #[.int .i64 0, .int .i64 0, .string ⟨#[]⟩, .slice none 0 0] 24))) := Lib.hid (tn_alloc _ _ _)
  have F0 := Lib.hid (Four.new w (.int .i64 0) (.int .i64 0) (.string ⟨#[]⟩) (.slice none 0 0) 24)
  have hSA : Six _ w0.heap.size _ _ _ _ _ _ := hA.blk
  have b4 := hSA.c4
  have HIA := Lib.hid hA
  have hta := hA.tab hc
  by_cases q0 : pT (tx r) = 0
  · rw [if_neg (by simpa using q0)] at hne ⊢
    have PM := Lib.hid (preMarked_no (bs (hdT r).text) _ hta q0)
    have HB1 : Hid (∀ w1, Below (w.alloc (.cells #[.int .i64 0, .int .i64 0, .string ⟨#[]⟩, .slice none 0 0] 24)).heap.size (w.alloc (.cells #[.int .i64 0, .int .i64 0, .string ⟨#[]⟩, .slice none 0 0] 24)) w1 → Below (w.alloc (.cells #[.int .i64 0, .int .i64 0, .string ⟨#[]⟩, .slice none 0 0] 24)).heap.size (w.alloc (.cells #[.int .i64 0, .int .i64 0, .string ⟨#[]⟩, .slice none 0 0] 24)) (w1.alloc (.cells #[.string ⟨#[]⟩, .int .i64 0] 94))) := Lib.hid fun w1 hb => hb.alloc hb.size _
    rcases h1 : run f .pr r with ⟨x, r1⟩ | ⟨er, k⟩ | _
    · show Calls _ _ _ _ (tOk L sl w0 r1 x w)
      have RC := Lib.hid (fun W (hW : Below (w.alloc (.cells #[.int .i64 0, .int .i64 0, .string ⟨#[]⟩, .slice none 0 0] 24)).heap.size (w.alloc (.cells #[.int .i64 0, .int .i64 0, .string ⟨#[]⟩, .slice none 0 0] 24)) W) => IR.ok (hA.later hW) h1)
      clear hne h h1 hA hSA hta q0
      generalize bs (hdT r).text = m at *
      go_enter Tryz.func87, Tryz.ntmps87
      go_wp2_with (first
        | (go_at_call 114; ((with_reducible refine PM.out.mono ?_); rintro e w2 ⟨rfl, hb⟩; have HB2 := Lib.hid (HB1.out _ hb); have F2 := Lib.hid (F0.out.stay (HB1.out _ hb)); clear hb b4))
        | (go_at_call 115; ((with_reducible refine (RC.out _ HB2.out).mono ?_); rintro e w3 ⟨o3, n3, s3, p3, k3, c3, rfl, hT, hI, hF⟩; have hT2 := (tn_below (w0 := w0) HB2.out).then_ hT; have HT3 := Lib.hid (HTA.out.then_ hT2); have F3 := Lib.hid (four_turn F2.out hT lt); have l3 := HB2.out.size; have d0 := F3.out.c0; have d1 := F3.out.c1; have d2 := F3.out.c2; have d3 := F3.out.c3; have y0 := F3.out.f0; have y1 := F3.out.f1; have y2 := F3.out.f2; have y3 := F3.out.f3; have HI3 := Lib.hid hI; have X3 := Lib.hid (Fr.low (lo' := w.heap.size + 1) hF (by rw [World.size_alloc] at l3; omega)); clear hT hT2 hI hF)))
      have hP := (F3.out).put (.int .i64 o3) (.int .i64 n3) (.string s3) (.slice p3 k3 c3)
      have r0 := hP.c0
      have r1 := hP.c1
      have r2 := hP.c2
      have r3 := hP.c3
      refine bodyPost_ret (v := xv o3 n3 s3 (.slice p3 k3 c3)) (by simp [results, Tryz.results87, go_sem, r0, r1, r2, r3]) rfl ?_
      exact done_box lt (HT3.out) (HI3.out) (X3.out)
    · show Calls _ _ _ _ (tBad L w0 er k w)
      have RC := Lib.hid (fun W (hW : Below (w.alloc (.cells #[.int .i64 0, .int .i64 0, .string ⟨#[]⟩, .slice none 0 0] 24)).heap.size (w.alloc (.cells #[.int .i64 0, .int .i64 0, .string ⟨#[]⟩, .slice none 0 0] 24)) W) => IR.bad (hA.later hW) h1)
      clear hne h h1 hA hSA hta q0
      generalize bs (hdT r).text = m at *
      go_enter Tryz.func87, Tryz.ntmps87
      go_wp2_with (first
        | (go_at_call 114; ((with_reducible refine PM.out.mono ?_); rintro e w2 ⟨rfl, hb⟩; have HB2 := Lib.hid (HB1.out _ hb); clear hb b4))
        | (go_at_call 115; ((with_reducible refine (RC.out _ HB2.out).mono ?_); rintro e w3 ⟨rfl, hT⟩; have HT3 := Lib.hid (HTA.out.then_ ((tn_below (w0 := w0) HB2.out).then_ hT)); clear hT)))
      exact ⟨rfl, rfl, HT3.out⟩
    · exact absurd h1 hne
  · rw [if_pos q0] at hne ⊢
    have hr := pT_pos q0
    have PM := Lib.hid (preMarked_yes (bs (hdT r).text) _ hta q0)
    have HN := Lib.hid (fun W (hW : Below (w.alloc (.cells #[.int .i64 0, .int .i64 0, .string ⟨#[]⟩, .slice none 0 0] 24)).heap.size (w.alloc (.cells #[.int .i64 0, .int .i64 0, .string ⟨#[]⟩, .slice none 0 0] 24)) W) => need_yes' hc (hA.later hW) (bs (hdT r).text) rfl hr)
    obtain ⟨op, hop⟩ : ∃ o, pT (tx r) = o := ⟨_, rfl⟩
    have hop2 : pT (bs (hdT r).text).data.toList = op := hop
    rw [hop] at hne ⊢
    rw [hop2] at PM
    have HB1 : Hid (∀ w1, Below (w.alloc (.cells #[.int .i64 0, .int .i64 0, .string ⟨#[]⟩, .slice none 0 0] 24)).heap.size (w.alloc (.cells #[.int .i64 0, .int .i64 0, .string ⟨#[]⟩, .slice none 0 0] 24)) w1 → Below (w.alloc (.cells #[.int .i64 0, .int .i64 0, .string ⟨#[]⟩, .slice none 0 0] 24)).heap.size (w.alloc (.cells #[.int .i64 0, .int .i64 0, .string ⟨#[]⟩, .slice none 0 0] 24)) (w1.alloc (.cells #[.string (bs (hdT r).text), .int .i64 op] 94))) := Lib.hid fun w1 hb => hb.alloc hb.size _
    rcases h1 : run f .pf r.tail with ⟨x, r1⟩ | ⟨er, k⟩ | _
    · show Calls _ _ _ _ (tOk L sl w0 r1 (nod op [x]) w)
      have h1x := Lib.hid h1
      clear hne h h1 hA hSA hta q0 hop hop2
      generalize bs (hdT r).text = m at *
      go_enter Tryz.func87, Tryz.ntmps87
      go_wp2_with (first
        | (go_at_call 114; ((with_reducible refine PM.out.mono ?_); rintro e w2 ⟨rfl, hb⟩; have HB2 := Lib.hid (HB1.out _ hb); have l2 := hb.size; rw [World.size_alloc] at l2; have F2 := Lib.hid (F0.out.stay (HB1.out _ hb)); have D2 := Lib.hid (Duo.new w2 (.string m) (.int .i64 op) 94); have g0 := D2.out.c0; have g1 := D2.out.c1; clear hb b4))
        | (go_at_call 49; ((with_reducible refine (HN.out _ HB2.out).mono ?_); rintro e w4 ⟨rfl, hT, hI⟩; have HT4 := Lib.hid (HTA.out.then_ ((tn_below (w0 := w0) HB2.out).then_ hT)); have l4 := hT.size; rw [World.size_alloc] at l4; have F4 := Lib.hid (four_turn F2.out hT lt); have D4 := Lib.hid (D2.out.grown hT (fun e => by have := Option.some.inj e; omega)); have CB := Lib.hid (fun W (hW : Below w4.heap.size w4 W) => IP.ok (hI.later hW) h1x.out); clear hT hI g0 g1)))
      have m0 := D4.out.c0
      have m1 := D4.out.c1
      have KK := Lib.hid (fun W (hW : Below w4.heap.size w4 W) => (D4.out.stay hW).c1)
      go_region_held3 (fun w' => w'.cell? ⟨w2.heap.size, 1, none⟩ = some (.int .i64 op)) (first | assumption | exact KK.out _ (Below.refl _ _).drew | exact KK.out _ (Below.refl _ _) | exact KL.out _ ((Below.refl _ _).alloc (Nat.le_refl _) _) | exact KL.out _ HB9.out | exact Z9 | fail)
        (first
          | (go_at_call 87; (with_reducible refine (CB.out _ ?_).mono ?_); (first | exact (Below.refl _ _).drew | exact Below.refl _ _); rintro e w8 ⟨o8, n8, s8', p8, k8, c8, rfl, hT, hI, hF⟩; have hT8 := (tn_below (w0 := w0) (Below.refl w4.heap.size w4).drew).then_ hT; have l8 := hT8.size; have D8 := D4.out.grown hT8 (fun e => by have := Option.some.inj e; omega); have K := D8.c1; have Q8 := Lib.hid D8; have KL := Lib.hid (fun W (hW : Below w8.heap.size w8 W) => (Q8.out.stay hW).c1); clear D8; have F8 := Lib.hid (four_turn F4.out hT8 lt); have HT8 := Lib.hid hT8; have HI8 := Lib.hid hI; have HF8 := Lib.hid (Fr.low (lo' := w.heap.size + 1) hF (by first | omega | (show _ ≤ w4.heap.size; omega))); clear hT hT8 hI hF)
          | (go_at_call 50; ((with_reducible refine (node_any _ _ _ _ _).mono ?_); rintro e w9 ⟨rfl, hb⟩; have HB9 := Lib.hid (((Below.refl w8.heap.size w8).alloc (Nat.le_refl _) _).then_ hb); have F9 := F8.out.stay HB9.out; have y0 := F9.f0; have y1 := F9.f1; have y2 := F9.f2; have y3 := F9.f3; have d0 := F9.c0; have d1 := F9.c1; have d2 := F9.c2; have d3 := F9.c3; have HF9 := Lib.hid F9; have Z9 := duo_far1 (Q8.out.stay HB9.out) (show w2.heap.size ≠ w.heap.size by omega) (.int .i64 op) (.int .i64 0) (.string ⟨#[]⟩) (.slice (some ⟨w8.heap.size, 0, none⟩) 1 1); have HB9b := Lib.hid hb; clear hb F9)))
      all_goals
        have hP := HF9.out.put (.int .i64 op) (.int .i64 0) (.string ⟨#[]⟩) (.slice (some ⟨w8.heap.size, 0, none⟩) 1 1)
        have r0 := hP.c0
        have r1' := hP.c1
        have r2 := hP.c2
        have r3 := hP.c3
        clear hP
        go_wp2
        refine bodyPost_ret (v := xv op 0 ⟨#[]⟩ (.slice (some ⟨w8.heap.size, 0, none⟩) 1 1)) (by simp [results, Tryz.results87, go_sem, r0, r1', r2, r3]) rfl ?_
        exact done_box lt ((HT4.out.then_ HT8.out).then_ (tn_below HB9.out)) (HI8.out.later HB9.out) (node1 HF8.out (by omega) HB9b.out)
    · show Calls _ _ _ _ (tBad L w0 er k w)
      have h1x := Lib.hid h1
      clear hne h h1 hA hSA hta q0 hop hop2
      generalize bs (hdT r).text = m at *
      go_enter Tryz.func87, Tryz.ntmps87
      go_wp2_with (first
        | (go_at_call 114; ((with_reducible refine PM.out.mono ?_); rintro e w2 ⟨rfl, hb⟩; have HB2 := Lib.hid (HB1.out _ hb); have l2 := hb.size; rw [World.size_alloc] at l2; have F2 := Lib.hid (F0.out.stay (HB1.out _ hb)); have D2 := Lib.hid (Duo.new w2 (.string m) (.int .i64 op) 94); have g0 := D2.out.c0; have g1 := D2.out.c1; clear hb b4))
        | (go_at_call 49; ((with_reducible refine (HN.out _ HB2.out).mono ?_); rintro e w4 ⟨rfl, hT, hI⟩; have HT4 := Lib.hid (HTA.out.then_ ((tn_below (w0 := w0) HB2.out).then_ hT)); have l4 := hT.size; rw [World.size_alloc] at l4; have F4 := Lib.hid (four_turn F2.out hT lt); have D4 := Lib.hid (D2.out.grown hT (fun e => by have := Option.some.inj e; omega)); have CB := Lib.hid (fun W (hW : Below w4.heap.size w4 W) => IP.bad (hI.later hW) h1x.out); clear hT hI g0 g1)))
      have m0 := D4.out.c0
      have m1 := D4.out.c1
      have KK := Lib.hid (fun W (hW : Below w4.heap.size w4 W) => (D4.out.stay hW).c1)
      refine wp_region_held_drew (S := (fun w' => w'.cell? ⟨w2.heap.size, 1, none⟩ = some (.int .i64 op))) (by kernel_rfl) ?_ (fun hHeld => ?_)
      · exact KK.out _ (Below.refl _ _).drew
      refine wpAnyH_take (i := 0) (v := (.pointer (some ⟨w2.heap.size, 1, none⟩))) rfl (by kernel_rfl) (by kernel_rfl) (by kernel_rfl) (fun _ _ _ h => h) (Or.inl ⟨by rfl, ?_⟩) hHeld ?_
      · intro w hSw
        (try dsimp only at hSw)
        go_simp
      simp only [Act.put]
      refine wpAnyH_take (i := 1) (v := (.int .i64 op)) rfl (by kernel_rfl) (by kernel_rfl) (by kernel_rfl) (fun _ _ _ h => h) (Or.inl ⟨by rfl, ?_⟩) hHeld ?_
      · intro w hSw
        (try dsimp only at hSw)
        go_simp
      simp only [Act.put]
      refine wpAnyH_take (i := 2) (v := pp w0) rfl (by kernel_rfl) (by kernel_rfl) (by kernel_rfl) (fun _ _ _ h => h) (Or.inl ⟨by rfl, ?_⟩) hHeld ?_
      · intro w hSw
        (try dsimp only at hSw)
        go_simp
      simp only [Act.put]
      refine wpAnyH_ready (rs := [3]) (by kernel_rfl) (by simp) (AllReadyH.cons rfl (fun K hK => ?_) AllReadyH.nil)
      go_simp
      (go_at_call 87; (with_reducible refine (CB.out _ ?_).mono ?_); (first | exact (Below.refl _ _).drew | exact Below.refl _ _); rintro e w8 ⟨rfl, hT⟩; exact ⟨rfl, rfl, HT4.out.then_ ((tn_below (w0 := w0) (Below.refl w4.heap.size w4).drew).then_ hT)⟩)
    · rw [h1] at hne; exact absurd rfl hne
end Go.Proofs.YtlnomiiphlbamaaGreatDoor.EtW
