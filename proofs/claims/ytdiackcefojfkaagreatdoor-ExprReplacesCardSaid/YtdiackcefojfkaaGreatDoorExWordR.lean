/-
  What the functions of the reference of package word return.
-/
import Derived.Test.YtdiackcefojfkaaGreatDoorExWordW
namespace Go.Proofs.YtdiackcefojfkaaGreatDoor.WordW
open Go Go.RowKit Go.Proofs.YtdiackcefojfkaaGreatDoor.WordM
theorem refWrap (a : Int) (w : World) (_a0 : -9223372036854775808 ≤ a) (_a1 : a ≤ 9223372036854775807) :
    Calls Tryz.prog 120 #[.int .i64 a] w fun e w' => e = .returned (.int .i64 (a % 65536)) ∧ w = w' := by
  have hr := tmod_range a
  by_cases h : a.tmod 65536 < 0
  · have e := tmod_neg a h
    go_enter Tryz.func120, Tryz.ntmps120
    go_wp2
    go_ret
    refine ⟨ret1 ?_, rfl⟩
    rw [← e]
    first | omega | (unfold wrap64; omega)
  · have e := tmod_pos a h
    go_enter Tryz.func120, Tryz.ntmps120
    go_wp2
    go_ret
    exact ⟨ret1 (by first | exact e | rfl), rfl⟩
theorem refAdd (a b : Int) (w : World) (a0 : -9223372036854775808 ≤ a) (a1 : a ≤ 9223372036854775807) (b0 : -9223372036854775808 ≤ b) (b1 : b ≤ 9223372036854775807) :
    Calls Tryz.prog 100 #[.int .i64 a, .int .i64 b] w fun e w' => e = .returned (.int .i64 ((a + b) % 65536)) ∧ w = w' := by
  have he : wrap64 (a % 65536 + b % 65536) = a % 65536 + b % 65536 := by unfold wrap64; omega
  go_enter Tryz.func100, Tryz.ntmps100
  go_wp2_with (go_at_call 120; refine (refWrap _ _ (by omega) (by omega)).mono ?_; rintro e w' ⟨rfl, rfl⟩)
  go_ret
  exact ⟨ret1 (by omega), rfl⟩
theorem refSub (a b : Int) (w : World) (a0 : -9223372036854775808 ≤ a) (a1 : a ≤ 9223372036854775807) (b0 : -9223372036854775808 ≤ b) (b1 : b ≤ 9223372036854775807) :
    Calls Tryz.prog 125 #[.int .i64 a, .int .i64 b] w fun e w' => e = .returned (.int .i64 ((a - b) % 65536)) ∧ w = w' := by
  have he : wrap64 (a % 65536 - b % 65536) = a % 65536 - b % 65536 := by unfold wrap64; omega
  go_enter Tryz.func125, Tryz.ntmps125
  go_wp2_with (go_at_call 120; refine (refWrap _ _ (by omega) (by omega)).mono ?_; rintro e w' ⟨rfl, rfl⟩)
  go_ret
  exact ⟨ret1 (by omega), rfl⟩
theorem refMul (a b : Int) (w : World) (a0 : -9223372036854775808 ≤ a) (a1 : a ≤ 9223372036854775807) (b0 : -9223372036854775808 ≤ b) (b1 : b ≤ 9223372036854775807) :
    Calls Tryz.prog 126 #[.int .i64 a, .int .i64 b] w fun e w' => e = .returned (.int .i64 (a * b % 65536)) ∧ w = w' := by
  have hm0 := Int.mul_nonneg (show 0 ≤ a % 65536 by omega) (show 0 ≤ b % 65536 by omega)
  have hm1 : a % 65536 * (b % 65536) ≤ 65535 * 65535 := Int.mul_le_mul (by omega) (by omega) (by omega) (by omega)
  have he : wrap64 (a % 65536 * (b % 65536)) = a % 65536 * (b % 65536) := by unfold wrap64; omega
  go_enter Tryz.func126, Tryz.ntmps126
  go_wp2_with (go_at_call 120; refine (refWrap _ _ (by omega) (by omega)).mono ?_; rintro e w' ⟨rfl, rfl⟩)
  go_ret
  exact ⟨ret1 (by exact mulmod a b), rfl⟩
theorem refNeg (a : Int) (w : World) (a0 : -9223372036854775808 ≤ a) (a1 : a ≤ 9223372036854775807) :
    Calls Tryz.prog 123 #[.int .i64 a] w fun e w' => e = .returned (.int .i64 (-a % 65536)) ∧ w = w' := by
  have he : wrap64 (-(a % 65536)) = -(a % 65536) := by unfold wrap64; omega
  go_enter Tryz.func123, Tryz.ntmps123
  go_wp2_with (go_at_call 120; refine (refWrap _ _ (by omega) (by omega)).mono ?_; rintro e w' ⟨rfl, rfl⟩)
  go_ret
  exact ⟨ret1 (by omega), rfl⟩
theorem refInv (a : Int) (w : World) (a0 : -9223372036854775808 ≤ a) (a1 : a ≤ 9223372036854775807) :
    Calls Tryz.prog 122 #[.int .i64 a] w fun e w' => e = .returned (.int .i64 (65535 - a % 65536)) ∧ w = w' := by
  have he : wrap64 (65535 - a % 65536) = 65535 - a % 65536 := by unfold wrap64; omega
  go_enter Tryz.func122, Tryz.ntmps122
  go_wp2_with (go_at_call 120; refine (refWrap _ _ (by omega) (by omega)).mono ?_; rintro e w' ⟨rfl, rfl⟩)
  go_ret
  exact ⟨rfl, rfl⟩
theorem refPower (n : Int) (w : World) (h0 : 0 ≤ n) (h1 : n ≤ 16) :
    Calls Tryz.prog 145 #[.int .i64 n] w fun e w' => e = .returned (.int .i64 (2 ^ n.toNat)) ∧ w = w' := by
  go_enter Tryz.func145, Tryz.ntmps145
  go_wp2
  go_loop [3, 4] (fun p i => ∃ k : Nat, (k : Int) ≤ n ∧ i = .int .i64 k ∧ p = .int .i64 (2 ^ k)) (fun _ i => (n - intOf i).toNat)
  case atStart => exact ⟨0, by omega, rfl, rfl⟩
  case round =>
    obtain ⟨k, hk, rfl, rfl⟩ := hrel
    have hb := pow_bounds k (by omega)
    have hb0 := hb.1
    have hb1 := hb.2
    clear hb
    by_cases hlt : (k : Int) < n
    · have he : wrap64 (2 * 2 ^ k) = 2 ^ (k + 1) := by rw [Int.pow_succ, Int.mul_comm]; unfold wrap64; omega
      go_wp2
      go_round
      case rel => exact ⟨k + 1, by omega, by go_num, by first | rfl | rw [Int.pow_succ, Int.mul_comm]⟩
      case measure => simp [intOf]; omega
    · have hkn : n.toNat = k := by omega
      go_wp2
      go_ret
      exact ⟨ret1 (by first | rfl | rw [hkn]), rfl⟩
theorem refShl (a n : Int) (w : World) (a0 : -9223372036854775808 ≤ a) (a1 : a ≤ 9223372036854775807) :
    Calls Tryz.prog 130 #[.int .i64 a, .int .i64 n] w fun e w' => e = .returned (.int .i64 (shlS a n)) ∧ w = w' := by
  unfold shlS
  by_cases h : 0 ≤ n ∧ n ≤ 15
  · rw [if_pos h]
    have ht := inside h
    obtain ⟨h0, h1⟩ := h
    have hb := pow_bounds n.toNat (by omega)
    have hm0 := Int.mul_nonneg (show 0 ≤ a % 65536 by omega) (show (0 : Int) ≤ 2 ^ n.toNat by omega)
    have hm1 : a % 65536 * 2 ^ n.toNat ≤ 65535 * 65536 := Int.mul_le_mul (by omega) hb.2 (by omega) (by omega)
    have he : wrap64 (a % 65536 * 2 ^ n.toNat) = a % 65536 * 2 ^ n.toNat := by unfold wrap64; omega
    clear hb
    go_enter Tryz.func130, Tryz.ntmps130
    go_wp2_with (first | (go_at_call 120; refine (refWrap _ _ (by omega) (by omega)).mono ?_; rintro e w' ⟨rfl, rfl⟩) | (go_at_call 145; refine (refPower _ _ (by omega) (by omega)).mono ?_; rintro e w' ⟨rfl, rfl⟩))
    go_ret
    exact ⟨ret1 (mulmod_l _ _), rfl⟩
  · rw [if_neg h]
    by_cases h0 : n < 0
    · go_enter Tryz.func130, Tryz.ntmps130
      go_wp2
      go_ret
      exact ⟨rfl, rfl⟩
    · have h1 : 15 < n := by omega
      go_enter Tryz.func130, Tryz.ntmps130
      go_wp2
      go_ret
      exact ⟨rfl, rfl⟩
theorem refShr (a n : Int) (w : World) (a0 : -9223372036854775808 ≤ a) (a1 : a ≤ 9223372036854775807) :
    Calls Tryz.prog 131 #[.int .i64 a, .int .i64 n] w fun e w' => e = .returned (.int .i64 (shrS a n)) ∧ w = w' := by
  unfold shrS
  by_cases h : 0 ≤ n ∧ n ≤ 15
  · rw [if_pos h]
    have ht := inside h
    obtain ⟨h0, h1⟩ := h
    have hb := pow_bounds n.toNat (by omega)
    have hz : ((2 : Int) ^ n.toNat == 0) = false := beq_false_of_ne (by omega)
    have hd := div_bounds (a % 65536) n.toNat (by omega) (by omega)
    have he : (a % 65536).tdiv (2 ^ n.toNat) = a % 65536 / 2 ^ n.toNat := Int.tdiv_eq_ediv_of_nonneg (by omega)
    go_enter Tryz.func131, Tryz.ntmps131
    go_wp2_with (first | (go_at_call 120; refine (refWrap _ _ (by omega) (by omega)).mono ?_; rintro e w' ⟨rfl, rfl⟩) | (go_at_call 145; refine (refPower _ _ (by omega) (by omega)).mono ?_; rintro e w' ⟨rfl, rfl⟩))
    go_ret
    exact ⟨rfl, rfl⟩
  · rw [if_neg h]
    by_cases h0 : n < 0
    · go_enter Tryz.func131, Tryz.ntmps131
      go_wp2
      go_ret
      exact ⟨rfl, rfl⟩
    · have h1 : 15 < n := by omega
      go_enter Tryz.func131, Tryz.ntmps131
      go_wp2
      go_ret
      exact ⟨rfl, rfl⟩
theorem bit_of_shr (a n : Int) : (shrS a n).tmod 2 = bitS a n := by
  unfold shrS bitS
  by_cases h : 0 ≤ n ∧ n ≤ 15
  · rw [if_pos h, if_pos h, divNat _ _ (by omega), Int.tmod_eq_emod_of_nonneg (Int.natCast_nonneg _)]
    unfold bitN wordN
    omega
  · rw [if_neg h, if_neg h]; rfl
theorem bitS_range (a n : Int) : 0 ≤ bitS a n ∧ bitS a n ≤ 1 := by
  unfold bitS
  have := bitN_le (wordN a) n.toNat
  split <;> omega
theorem bitS_in (a : Int) (k : Nat) (h : k < 16) : bitS a k = (bitN (wordN a) k : Int) := by
  unfold bitS
  rw [if_pos (by omega), Int.toNat_natCast]
theorem refBit (a n : Int) (w : World) (a0 : -9223372036854775808 ≤ a) (a1 : a ≤ 9223372036854775807) :
    Calls Tryz.prog 143 #[.int .i64 a, .int .i64 n] w fun e w' => e = .returned (.int .i64 (bitS a n)) ∧ w = w' := by
  have e := bit_of_shr a n
  rw [← e]
  clear e
  go_enter Tryz.func143, Tryz.ntmps143
  go_wp2_with (go_at_call 131; refine (refShr _ _ _ (by omega) (by omega)).mono ?_; rintro e w' ⟨rfl, rfl⟩)
  go_ret
  exact ⟨rfl, rfl⟩
theorem refOnes (a : Int) (w : World) (a0 : -9223372036854775808 ≤ a) (a1 : a ≤ 9223372036854775807) :
    Calls Tryz.prog 124 #[.int .i64 a] w fun e w' => e = .returned (.int .i64 (onesS a)) ∧ w = w' := by
  unfold onesS
  go_enter Tryz.func124, Tryz.ntmps124
  go_wp2
  go_loop [3, 4] (fun p i => ∃ k : Nat, k ≤ 16 ∧ i = .int .i64 k ∧ p = .int .i64 (sumN k (wordN a))) (fun _ i => (16 - intOf i).toNat)
  case atStart => exact ⟨0, by omega, rfl, rfl⟩
  case round =>
    obtain ⟨k, hk, rfl, rfl⟩ := hrel
    by_cases hlt : k < 16
    · have hs := sumN_le k (wordN a)
      have hb := bitN_le (wordN a) k
      have eb := bitS_in a k hlt
      have he : wrap64 ((sumN k (wordN a) : Int) + bitS a k) = (sumN (k + 1) (wordN a) : Int) := by rw [eb]; simp only [sumN]; unfold wrap64; omega
      clear hs hb eb
      have hlt' : (k : Int) < 16 := by omega
      go_wp2_with (go_at_call 143; refine (refBit _ _ _ (by omega) (by omega)).mono ?_; rintro e w' ⟨rfl, rfl⟩)
      go_round
      case rel => exact ⟨k + 1, by omega, by go_num, by rw [he]⟩
      case measure => simp [intOf]; omega
    · have hkn : k = 16 := by omega
      subst hkn
      go_wp2
      go_ret
      exact ⟨rfl, rfl⟩
end Go.Proofs.YtdiackcefojfkaaGreatDoor.WordW
