/-
  Each law of package word, walked: whatever the arguments, the call returns true, in a world that differs only by what was drawn.
-/
import Derived.Test.YtgicoeelplklnaaWordCode
import Derived.Test.YtgicoeelplklnaaWordRefs
import Derived.Test.YtgicoeelplklnaaWordFacts
import Derived.WalkSmall
namespace Go.Proofs.Ytgicoeelplklnaa.WordW
open Go Go.RowKit Go.Proofs.Ytgicoeelplklnaa.WordM

theorem wrapCodeS (a : Int) (w : World) : Calls Try.prog 10 #[.int .i64 a] w fun e w' => e = .returned (.int .i64 (wrapS a)) ∧ w = w' := wrapCode a w
theorem wrapRefS (a : Int) (w : World) (a0 : -9223372036854775808 ≤ a) (a1 : a ≤ 9223372036854775807) : Calls Try.prog 11 #[.int .i64 a] w fun e w' => e = .returned (.int .i64 (wrapS a)) ∧ w = w' := refWrap a w a0 a1
theorem addCodeS (a b : Int) (w : World) : Calls Try.prog 13 #[.int .i64 a, .int .i64 b] w fun e w' => e = .returned (.int .i64 (addS a b)) ∧ w = w' := addCode a b w
theorem addRefS (a b : Int) (w : World) (a0 : -9223372036854775808 ≤ a) (a1 : a ≤ 9223372036854775807) (b0 : -9223372036854775808 ≤ b) (b1 : b ≤ 9223372036854775807) : Calls Try.prog 14 #[.int .i64 a, .int .i64 b] w fun e w' => e = .returned (.int .i64 (addS a b)) ∧ w = w' := refAdd a b w a0 a1 b0 b1
theorem subCodeS (a b : Int) (w : World) : Calls Try.prog 15 #[.int .i64 a, .int .i64 b] w fun e w' => e = .returned (.int .i64 (subS a b)) ∧ w = w' := subCode a b w
theorem subRefS (a b : Int) (w : World) (a0 : -9223372036854775808 ≤ a) (a1 : a ≤ 9223372036854775807) (b0 : -9223372036854775808 ≤ b) (b1 : b ≤ 9223372036854775807) : Calls Try.prog 16 #[.int .i64 a, .int .i64 b] w fun e w' => e = .returned (.int .i64 (subS a b)) ∧ w = w' := refSub a b w a0 a1 b0 b1
theorem mulCodeS (a b : Int) (w : World) : Calls Try.prog 17 #[.int .i64 a, .int .i64 b] w fun e w' => e = .returned (.int .i64 (mulS a b)) ∧ w = w' := mulCode a b w
theorem mulRefS (a b : Int) (w : World) (a0 : -9223372036854775808 ≤ a) (a1 : a ≤ 9223372036854775807) (b0 : -9223372036854775808 ≤ b) (b1 : b ≤ 9223372036854775807) : Calls Try.prog 18 #[.int .i64 a, .int .i64 b] w fun e w' => e = .returned (.int .i64 (mulS a b)) ∧ w = w' := refMul a b w a0 a1 b0 b1
theorem negCodeS (a : Int) (w : World) : Calls Try.prog 19 #[.int .i64 a] w fun e w' => e = .returned (.int .i64 (negS a)) ∧ w = w' := negCode a w
theorem negRefS (a : Int) (w : World) (a0 : -9223372036854775808 ≤ a) (a1 : a ≤ 9223372036854775807) : Calls Try.prog 20 #[.int .i64 a] w fun e w' => e = .returned (.int .i64 (negS a)) ∧ w = w' := refNeg a w a0 a1
theorem invCodeS (a : Int) (w : World) : Calls Try.prog 21 #[.int .i64 a] w fun e w' => e = .returned (.int .i64 (invS a)) ∧ w = w' := invCode a w
theorem invRefS (a : Int) (w : World) (a0 : -9223372036854775808 ≤ a) (a1 : a ≤ 9223372036854775807) : Calls Try.prog 22 #[.int .i64 a] w fun e w' => e = .returned (.int .i64 (invS a)) ∧ w = w' := refInv a w a0 a1
theorem awake_any (w : World) :
    Calls Try.prog 12 #[] w fun e w' => e = .returned (.bool true) ∧ ∃ m, w' = w.drewN m := by
  go_enter Try.func12, Try.ntmps12
  go_wp2_with fail
  refine (wrapCodeS _ _).mono ?_
  rintro e w' ⟨rfl, rfl⟩
  rw [show wrapS (-1) = 65535 from by decide +kernel]
  go_wp2_with fail
  refine (addCodeS _ _ _).mono ?_
  rintro e w' ⟨rfl, rfl⟩
  rw [show addS 65535 2 = 1 from by decide +kernel]
  go_wp2_with fail
  refine (mulCodeS _ _ _).mono ?_
  rintro e w' ⟨rfl, rfl⟩
  rw [show mulS 256 256 = 0 from by decide +kernel]
  go_wp2_with fail
  refine (shlCode _ _ _).mono ?_
  rintro e w' ⟨rfl, rfl⟩
  rw [show shlS 3 15 = 32768 from by decide +kernel]
  go_wp2_with fail
  refine (onesCode _ _).mono ?_
  rintro e w' ⟨rfl, m1, rfl⟩
  rw [show onesS (-1) = 16 from by decide +kernel]
  go_wp2_with fail
  refine (maskCode _ _).mono ?_
  rintro e w' ⟨rfl, rfl⟩
  rw [show maskS 8 = 255 from by decide +kernel]
  go_wp2_with fail
  refine (fitsCode _ _ _).mono ?_
  rintro e w' ⟨rfl, rfl⟩
  rw [show fitsS 255 8 = true from by decide +kernel]
  go_wp2_with fail
  refine (revCode _ _ _).mono ?_
  rintro e w' ⟨rfl, m2, rfl⟩
  rw [show revS 1 8 = 128 from by decide +kernel]
  go_wp2_with fail
  go_ret
  exact ⟨rfl, _, rfl⟩
set_option maxHeartbeats 400000 in
theorem wraps_any (n : Int) (w : World) (n0 : -9223372036854775808 ≤ n) (n1 : n ≤ 9223372036854775807) :
    Calls Try.prog 3 #[.int .i64 n] w fun e w' => e = .returned (.bool true) ∧ ∃ m, w' = w.drewN m := by
  have r0 := wrapS_lo n
  have r1 := wrapS_hi n
  have e1 := wrapS_wrapS n
  have e2 := wrapS_less n
  go_enter Try.func3, Try.ntmps3
  go_wp2_with (first | (go_at_call 10; refine (wrapCodeS _ _).mono ?_; rintro e w' ⟨rfl, rfl⟩) | (go_at_call 11; refine (wrapRefS _ _ (by omega) (by omega)).mono ?_; rintro e w' ⟨rfl, rfl⟩) | (go_at_call 12; refine (awake_any _).mono ?_; rintro e w' ⟨rfl, m, rfl⟩))
  go_ret
  exact ⟨rfl, _, rfl⟩
set_option maxHeartbeats 400000 in
theorem arithmetic_any (a b : Int) (w : World) (a0 : -9223372036854775808 ≤ a) (a1 : a ≤ 9223372036854775807) (b0 : -9223372036854775808 ≤ b) (b1 : b ≤ 9223372036854775807) :
    Calls Try.prog 4 #[.int .i64 a, .int .i64 b] w fun e w' => e = .returned (.bool true) ∧ ∃ m, w' = w.drewN m := by
  go_enter Try.func4, Try.ntmps4
  go_wp2_with (first | (go_at_call 13; refine (addCodeS _ _ _).mono ?_; rintro e w' ⟨rfl, rfl⟩) | (go_at_call 14; refine (addRefS _ _ _ (by omega) (by omega) (by omega) (by omega)).mono ?_; rintro e w' ⟨rfl, rfl⟩) | (go_at_call 15; refine (subCodeS _ _ _).mono ?_; rintro e w' ⟨rfl, rfl⟩) | (go_at_call 16; refine (subRefS _ _ _ (by omega) (by omega) (by omega) (by omega)).mono ?_; rintro e w' ⟨rfl, rfl⟩) | (go_at_call 17; refine (mulCodeS _ _ _).mono ?_; rintro e w' ⟨rfl, rfl⟩) | (go_at_call 18; refine (mulRefS _ _ _ (by omega) (by omega) (by omega) (by omega)).mono ?_; rintro e w' ⟨rfl, rfl⟩) | (go_at_call 19; refine (negCodeS _ _).mono ?_; rintro e w' ⟨rfl, rfl⟩) | (go_at_call 20; refine (negRefS _ _ (by omega) (by omega)).mono ?_; rintro e w' ⟨rfl, rfl⟩) | (go_at_call 21; refine (invCodeS _ _).mono ?_; rintro e w' ⟨rfl, rfl⟩) | (go_at_call 22; refine (invRefS _ _ (by omega) (by omega)).mono ?_; rintro e w' ⟨rfl, rfl⟩) | (go_at_call 12; refine (awake_any _).mono ?_; rintro e w' ⟨rfl, m, rfl⟩))
  go_ret
  exact ⟨rfl, _, rfl⟩
set_option maxHeartbeats 400000 in
theorem ring_any (a b c : Int) (w : World) (_a0 : -9223372036854775808 ≤ a) (_a1 : a ≤ 9223372036854775807) (_b0 : -9223372036854775808 ≤ b) (_b1 : b ≤ 9223372036854775807) (_c0 : -9223372036854775808 ≤ c) (_c1 : c ≤ 9223372036854775807) :
    Calls Try.prog 5 #[.int .i64 a, .int .i64 b, .int .i64 c] w fun e w' => e = .returned (.bool true) ∧ ∃ m, w' = w.drewN m := by
  have e1 := add_comm a b
  have e2 := mul_comm a b
  have e3 := add_assoc a b c
  have e4 := mul_assoc a b c
  have e5 := mul_add a b c
  have e6 := add_zero a
  have e7 := mul_one a
  have e8 := add_neg a
  have e9 := sub_add a b
  have e10 := neg_inv a
  go_enter Try.func5, Try.ntmps5
  go_wp2_with (first | (go_at_call 10; refine (wrapCodeS _ _).mono ?_; rintro e w' ⟨rfl, rfl⟩) | (go_at_call 13; refine (addCodeS _ _ _).mono ?_; rintro e w' ⟨rfl, rfl⟩) | (go_at_call 15; refine (subCodeS _ _ _).mono ?_; rintro e w' ⟨rfl, rfl⟩) | (go_at_call 17; refine (mulCodeS _ _ _).mono ?_; rintro e w' ⟨rfl, rfl⟩) | (go_at_call 19; refine (negCodeS _ _).mono ?_; rintro e w' ⟨rfl, rfl⟩) | (go_at_call 21; refine (invCodeS _ _).mono ?_; rintro e w' ⟨rfl, rfl⟩) | (go_at_call 12; refine (awake_any _).mono ?_; rintro e w' ⟨rfl, m, rfl⟩))
  go_ret
  exact ⟨rfl, _, rfl⟩
set_option maxHeartbeats 400000 in
theorem shifts_any (a n : Int) (w : World) (a0 : -9223372036854775808 ≤ a) (a1 : a ≤ 9223372036854775807) (n0 : -9223372036854775808 ≤ n) (n1 : n ≤ 9223372036854775807) :
    Calls Try.prog 6 #[.int .i64 a, .int .i64 n] w fun e w' => e = .returned (.bool true) ∧ ∃ m, w' = w.drewN m := by
  by_cases h : 0 ≤ n ∧ n ≤ 15
  · have ht := inside h
    obtain ⟨h0, h1⟩ := h
    have e1 := shl_mul a n h0 h1
    have e2 := shr_shl a n h0 h1
    have hb := pow_bounds n.toNat (by omega)
    go_enter Try.func6, Try.ntmps6
    go_wp2_with (first | (go_at_call 23; refine (shlCode _ _ _).mono ?_; rintro e w' ⟨rfl, rfl⟩) | (go_at_call 24; refine (refShl _ _ _ (by omega) (by omega)).mono ?_; rintro e w' ⟨rfl, rfl⟩) | (go_at_call 25; refine (shrCode _ _ _).mono ?_; rintro e w' ⟨rfl, rfl⟩) | (go_at_call 26; refine (refShr _ _ _ (by omega) (by omega)).mono ?_; rintro e w' ⟨rfl, rfl⟩) | (go_at_call 17; refine (mulCodeS _ _ _).mono ?_; rintro e w' ⟨rfl, rfl⟩) | (go_at_call 10; refine (wrapCodeS _ _).mono ?_; rintro e w' ⟨rfl, rfl⟩) | (go_at_call 27; refine (maskCode _ _).mono ?_; rintro e w' ⟨rfl, rfl⟩) | (go_at_call 12; refine (awake_any _).mono ?_; rintro e w' ⟨rfl, m, rfl⟩))
    go_ret
    exact ⟨rfl, _, rfl⟩
  · have ht := outside h
    have e1 := shl_out a n h
    have e2 := shr_out a n h
    by_cases g : n < 0
    · clear h
      go_enter Try.func6, Try.ntmps6
      go_wp2_with (first | (go_at_call 23; refine (shlCode _ _ _).mono ?_; rintro e w' ⟨rfl, rfl⟩) | (go_at_call 24; refine (refShl _ _ _ (by omega) (by omega)).mono ?_; rintro e w' ⟨rfl, rfl⟩) | (go_at_call 25; refine (shrCode _ _ _).mono ?_; rintro e w' ⟨rfl, rfl⟩) | (go_at_call 26; refine (refShr _ _ _ (by omega) (by omega)).mono ?_; rintro e w' ⟨rfl, rfl⟩) | (go_at_call 12; refine (awake_any _).mono ?_; rintro e w' ⟨rfl, m, rfl⟩))
      go_ret
      exact ⟨rfl, _, rfl⟩
    · have g2 : 15 < n := by omega
      clear h
      go_enter Try.func6, Try.ntmps6
      go_wp2_with (first | (go_at_call 23; refine (shlCode _ _ _).mono ?_; rintro e w' ⟨rfl, rfl⟩) | (go_at_call 24; refine (refShl _ _ _ (by omega) (by omega)).mono ?_; rintro e w' ⟨rfl, rfl⟩) | (go_at_call 25; refine (shrCode _ _ _).mono ?_; rintro e w' ⟨rfl, rfl⟩) | (go_at_call 26; refine (refShr _ _ _ (by omega) (by omega)).mono ?_; rintro e w' ⟨rfl, rfl⟩) | (go_at_call 12; refine (awake_any _).mono ?_; rintro e w' ⟨rfl, m, rfl⟩))
      go_ret
      exact ⟨rfl, _, rfl⟩
end Go.Proofs.Ytgicoeelplklnaa.WordW
