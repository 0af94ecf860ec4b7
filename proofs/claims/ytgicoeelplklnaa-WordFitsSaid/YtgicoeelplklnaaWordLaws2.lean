/-
  Each law of package word, walked: whatever the arguments, the call returns true, in a world that differs only by what was drawn.
-/
import Derived.Test.YtgicoeelplklnaaWordLaws
namespace Go.Proofs.Ytgicoeelplklnaa.WordW
open Go Go.RowKit Go.Proofs.Ytgicoeelplklnaa.WordM

set_option maxHeartbeats 400000 in
theorem fits_any (a width : Int) (w : World) (_a0 : -9223372036854775808 ≤ a) (_a1 : a ≤ 9223372036854775807) (width0 : -9223372036854775808 ≤ width) (width1 : width ≤ 9223372036854775807) :
    Calls Try.prog 8 #[.int .i64 a, .int .i64 width] w fun e w' => e = .returned (.bool true) ∧ ∃ m, w' = w.drewN m := by
  by_cases h : 1 ≤ width ∧ width ≤ 16
  · have ht := inside h
    obtain ⟨h0, h1⟩ := h
    have e1 := fits_low a width h0 h1
    go_enter Try.func8, Try.ntmps8
    go_wp2_with (first | (go_at_call 27; refine (maskCode _ _).mono ?_; rintro e w' ⟨rfl, rfl⟩) | (go_at_call 32; refine (refMask _ _).mono ?_; rintro e w' ⟨rfl, rfl⟩) | (go_at_call 33; refine (fitsCode _ _ _).mono ?_; rintro e w' ⟨rfl, rfl⟩) | (go_at_call 34; refine (refFits _ _ _).mono ?_; rintro e w' ⟨rfl, rfl⟩) | (go_at_call 10; refine (wrapCodeS _ _).mono ?_; rintro e w' ⟨rfl, rfl⟩) | (go_at_call 12; refine (awake_any _).mono ?_; rintro e w' ⟨rfl, m, rfl⟩))
    go_ret
    exact ⟨rfl, _, rfl⟩
  · have ht := outside h
    by_cases g : width < 1
    · clear h
      go_enter Try.func8, Try.ntmps8
      go_wp2_with (first | (go_at_call 27; refine (maskCode _ _).mono ?_; rintro e w' ⟨rfl, rfl⟩) | (go_at_call 32; refine (refMask _ _).mono ?_; rintro e w' ⟨rfl, rfl⟩) | (go_at_call 33; refine (fitsCode _ _ _).mono ?_; rintro e w' ⟨rfl, rfl⟩) | (go_at_call 34; refine (refFits _ _ _).mono ?_; rintro e w' ⟨rfl, rfl⟩) | (go_at_call 10; refine (wrapCodeS _ _).mono ?_; rintro e w' ⟨rfl, rfl⟩) | (go_at_call 12; refine (awake_any _).mono ?_; rintro e w' ⟨rfl, m, rfl⟩))
      go_ret
      exact ⟨rfl, _, rfl⟩
    · have g2 : 16 < width := by omega
      clear h
      go_enter Try.func8, Try.ntmps8
      go_wp2_with (first | (go_at_call 27; refine (maskCode _ _).mono ?_; rintro e w' ⟨rfl, rfl⟩) | (go_at_call 32; refine (refMask _ _).mono ?_; rintro e w' ⟨rfl, rfl⟩) | (go_at_call 33; refine (fitsCode _ _ _).mono ?_; rintro e w' ⟨rfl, rfl⟩) | (go_at_call 34; refine (refFits _ _ _).mono ?_; rintro e w' ⟨rfl, rfl⟩) | (go_at_call 10; refine (wrapCodeS _ _).mono ?_; rintro e w' ⟨rfl, rfl⟩) | (go_at_call 12; refine (awake_any _).mono ?_; rintro e w' ⟨rfl, m, rfl⟩))
      go_ret
      exact ⟨rfl, _, rfl⟩
set_option maxHeartbeats 400000 in
theorem reverses_any (a width : Int) (w : World) (a0 : -9223372036854775808 ≤ a) (a1 : a ≤ 9223372036854775807) (width0 : -9223372036854775808 ≤ width) (width1 : width ≤ 9223372036854775807) :
    Calls Try.prog 9 #[.int .i64 a, .int .i64 width] w fun e w' => e = .returned (.bool true) ∧ ∃ m, w' = w.drewN m := by
  by_cases h : 1 ≤ width ∧ width ≤ 16
  · have ht := inside h
    obtain ⟨h0, h1⟩ := h
    have e1 := rev_twice a width h0 h1
    have e2 := ones_rev a width h0 h1
    go_enter Try.func9, Try.ntmps9
    go_wp2_with (first | (go_at_call 35; refine (revCode _ _ _).mono ?_; rintro e w' ⟨rfl, m, rfl⟩) | (go_at_call 36; refine (refReverse _ _ _ (by omega) (by omega)).mono ?_; rintro e w' ⟨rfl, rfl⟩) | (go_at_call 27; refine (maskCode _ _).mono ?_; rintro e w' ⟨rfl, rfl⟩) | (go_at_call 30; refine (onesCode _ _).mono ?_; rintro e w' ⟨rfl, m, rfl⟩) | (go_at_call 10; refine (wrapCodeS _ _).mono ?_; rintro e w' ⟨rfl, rfl⟩) | (go_at_call 12; refine (awake_any _).mono ?_; rintro e w' ⟨rfl, m, rfl⟩))
    go_ret
    exact ⟨rfl, _, rfl⟩
  · have ht := outside h
    have e1 := rev_out a width h
    by_cases g : width < 1
    · clear h
      go_enter Try.func9, Try.ntmps9
      go_wp2_with (first | (go_at_call 35; refine (revCode _ _ _).mono ?_; rintro e w' ⟨rfl, m, rfl⟩) | (go_at_call 36; refine (refReverse _ _ _ (by omega) (by omega)).mono ?_; rintro e w' ⟨rfl, rfl⟩) | (go_at_call 12; refine (awake_any _).mono ?_; rintro e w' ⟨rfl, m, rfl⟩))
      go_ret
      exact ⟨rfl, _, rfl⟩
    · have g2 : 16 < width := by omega
      clear h
      go_enter Try.func9, Try.ntmps9
      go_wp2_with (first | (go_at_call 35; refine (revCode _ _ _).mono ?_; rintro e w' ⟨rfl, m, rfl⟩) | (go_at_call 36; refine (refReverse _ _ _ (by omega) (by omega)).mono ?_; rintro e w' ⟨rfl, rfl⟩) | (go_at_call 12; refine (awake_any _).mono ?_; rintro e w' ⟨rfl, m, rfl⟩))
      go_ret
      exact ⟨rfl, _, rfl⟩
set_option maxHeartbeats 400000 in
theorem bits_any (a i : Int) (w : World) (a0 : -9223372036854775808 ≤ a) (a1 : a ≤ 9223372036854775807) (_i0 : -9223372036854775808 ≤ i) (_i1 : i ≤ 9223372036854775807) :
    Calls Try.prog 7 #[.int .i64 a, .int .i64 i] w fun e w' => e = .returned (.bool true) ∧ ∃ m, w' = w.drewN m := by
  have e1 := ones_inv a
  have l0 := ones_lo a
  have l1 := ones_hi a
  have l2 := ones_lo (invS a)
  have l3 := ones_hi (invS a)
  go_enter Try.func7, Try.ntmps7
  go_wp2_with (first | (go_at_call 28; refine (bitCode _ _ _).mono ?_; rintro e w' ⟨rfl, rfl⟩) | (go_at_call 29; refine (refBit _ _ _ (by omega) (by omega)).mono ?_; rintro e w' ⟨rfl, rfl⟩) | (go_at_call 30; refine (onesCode _ _).mono ?_; rintro e w' ⟨rfl, m, rfl⟩) | (go_at_call 31; refine (refOnes _ _ (by omega) (by omega)).mono ?_; rintro e w' ⟨rfl, rfl⟩))
  go_loop [5, 6] (fun p i => ∃ k : Nat, k ≤ 16 ∧ i = .int .i64 k ∧ p = .int .i64 (sumN k (wordN a))) (fun _ i => (16 - intOf i).toNat)
  case atStart => exact ⟨0, by omega, rfl, rfl⟩
  case round =>
    obtain ⟨k, hk, rfl, rfl⟩ := hrel
    by_cases hlt : k < 16
    · have hs := sumN_le k (wordN a)
      have hb := bitN_le (wordN a) k
      have eb := bitS_in a k hlt
      have he : wrap64 ((sumN k (wordN a) : Int) + bitS a k) = (sumN (k + 1) (wordN a) : Int) := by rw [eb]; simp only [sumN]; unfold wrap64; omega
      clear hs hb eb
      have hlt' : (k : Int) < 16 := by omega
      go_wp2_with (first | (go_at_call 28; refine (bitCode _ _ _).mono ?_; rintro e w' ⟨rfl, rfl⟩))
      go_round
      case rel => exact ⟨k + 1, by omega, by go_num, by rw [he]⟩
      case measure => simp [intOf]; omega
    · have hkn : k = 16 := by omega
      subst hkn
      have es : onesS a = (sumN 16 (wordN a) : Int) := rfl
      rw [← es]
      go_wp2_with (first | (go_at_call 30; refine (onesCode _ _).mono ?_; rintro e w' ⟨rfl, m, rfl⟩) | (go_at_call 21; refine (invCodeS _ _).mono ?_; rintro e w' ⟨rfl, rfl⟩) | (go_at_call 12; refine (awake_any _).mono ?_; rintro e w' ⟨rfl, m, rfl⟩))
      go_ret
      exact ⟨rfl, _, rfl⟩
end Go.Proofs.Ytgicoeelplklnaa.WordW
