/-
  What the functions of package word that call math/bits return, and Fits.
-/
import Derived.Test.YtgicoeelplklnaaWordWalks
namespace Go.Proofs.Ytgicoeelplklnaa.WordW
open Go Go.RowKit Go.Proofs.Ytgicoeelplklnaa.WordM

theorem u16r (a : Int) : 0 ≤ IntKind.u16.wrap a ∧ IntKind.u16.wrap a < 65536 := by rw [IntKind.wrap_u16]; omega
theorem u16N (a : Int) : (IntKind.u16.wrap a).toNat = wordN a := by rw [IntKind.wrap_u16]; rfl
theorem onesCode (a : Int) (w : World) :
    Calls Try.prog 30 #[.int .i64 a] w fun e w' => e = .returned (.int .i64 (onesS a)) ∧ ∃ m, w' = w.drewN m := by
  have hmf := mkf
  go_enter Try.func30, Try.ntmps30
  go_wp2_with (first | (go_at_call 53; refine (onesBits _ _ (u16r a).1 (u16r a).2).mono ?_; rintro e w' ⟨rfl, m, rfl⟩) | go_in)
  go_ret
  refine ⟨ret1 ?_, _, rfl⟩
  have hl := sumN_le 16 (wordN a)
  rw [u16N, u16s (by omega) (by omega), w64 (by omega) (by omega)]
  rfl
theorem revCode (a n : Int) (w : World) :
    Calls Try.prog 35 #[.int .i64 a, .int .i64 n] w fun e w' => e = .returned (.int .i64 (revS a n)) ∧ ∃ m, w' = w.drewN m := by
  have hmf := mkf
  unfold revS
  by_cases h : 1 ≤ n ∧ n ≤ 16
  · rw [if_pos h]
    have ht := inside h
    obtain ⟨h0, h1⟩ := h
    have hc : wrap64 (16 - n) = 16 - n := by unfold wrap64; omega
    have hc0 : 0 ≤ 16 - n := by omega
    have hc1 : 16 - n ≤ 16 := by omega
    go_enter Try.func35, Try.ntmps35
    go_wp2_with (first | (go_at_call 54; refine (revBits _ _ (u16r a).1 (u16r a).2).mono ?_; rintro e w' ⟨rfl, m, rfl⟩) | go_in)
    go_ret
    refine ⟨ret1 ?_, _, rfl⟩
    have hk : (16 - n).toNat = 16 - n.toNat := by omega
    have hl := revN_lt16 n.toNat (wordN a) (by omega)
    have hr := revN_lt16 16 (wordN a) (by omega)
    rw [u16N, hk, divNat _ _ (by omega), Int.toNat_natCast, revN_right _ _ (by omega), w64 (by omega) (by omega)]
  · rw [if_neg h]
    have ht := outside h
    go_enter Try.func35, Try.ntmps35
    go_wp2_with (go_at_call 45; refine (within_no _ _ _ _ _ h).mono ?_; rintro e w' ⟨rfl, rfl⟩)
    go_ret
    exact ⟨rfl, 0, rfl⟩
theorem fitsCode (a n : Int) (w : World) :
    Calls Try.prog 33 #[.int .i64 a, .int .i64 n] w fun e w' => e = .returned (.bool (fitsS a n)) ∧ w = w' := by
  unfold fitsS
  by_cases h : 1 ≤ n ∧ n ≤ 16 ∧ 0 ≤ a
  · rw [if_pos h]
    obtain ⟨h0, h1, h2⟩ := h
    go_enter Try.func33, Try.ntmps33
    go_wp2_with (go_at_call 27; refine (maskCode _ _).mono ?_; rintro e w' ⟨rfl, rfl⟩)
    go_ret
    exact ⟨rfl, rfl⟩
  · rw [if_neg h]
    by_cases h0 : 1 ≤ n
    · by_cases h1 : n ≤ 16
      · have h2 : ¬ 0 ≤ a := fun g => h ⟨h0, h1, g⟩
        clear h
        go_enter Try.func33, Try.ntmps33
        go_wp2
        go_ret
        exact ⟨rfl, rfl⟩
      · clear h
        go_enter Try.func33, Try.ntmps33
        go_wp2
        go_ret
        exact ⟨rfl, rfl⟩
    · clear h
      go_enter Try.func33, Try.ntmps33
      go_wp2
      go_ret
      exact ⟨rfl, rfl⟩
end Go.Proofs.Ytgicoeelplklnaa.WordW
