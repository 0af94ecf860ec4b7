/-
  What each function of package word, and each function of its reference, returns: one contract a function.
-/
import Derived.Test.YtgicoeelplklnaaWordBits
import Derived.Test.YtgicoeelplklnaaRows
import Derived.WalkKit
import Derived.Outline
import Derived.WalkSpells
import Derived.Deep.DeepFit
import Derived.Lib.Hide
import Derived.LoopTactic
import Derived.Deep.QuietTactic
import Derived.BigQuiet
namespace Go.Proofs.Ytgicoeelplklnaa.WordW
open Go Go.RowKit Go.Proofs.Ytgicoeelplklnaa.WordM

theorem mkf (fn : Fn) (first cap : Array Value) (w : World) : (Instr.makeFunc fn first cap).run Try.prog w = .ok (.func fn first cap) w := rfl
theorem w64 {x : Int} (h0 : 0 ≤ x) (h1 : x < 9223372036854775808) : wrap64 x = x := by unfold wrap64; omega
theorem u16s {x : Int} (h0 : 0 ≤ x) (h1 : x < 65536) : IntKind.u16.wrap x = x := by rw [IntKind.wrap_u16]; omega

/-- What Shl, Shr, Bit, Mask, Fits and Reverse return. -/
def shlS (a n : Int) : Int := if 0 ≤ n ∧ n ≤ 15 then a * 2 ^ n.toNat % 65536 else 0
def shrS (a n : Int) : Int := if 0 ≤ n ∧ n ≤ 15 then a % 65536 / 2 ^ n.toNat else 0
def bitS (a n : Int) : Int := if 0 ≤ n ∧ n ≤ 15 then (bitN (wordN a) n.toNat : Int) else 0
def maskS (n : Int) : Int := if 0 ≤ n ∧ n ≤ 16 then 2 ^ n.toNat - 1 else 0
def fitsS (a n : Int) : Bool := if 1 ≤ n ∧ n ≤ 16 ∧ 0 ≤ a then decide (a ≤ maskS n) else false
def revS (a n : Int) : Int := if 1 ≤ n ∧ n ≤ 16 then (revN n.toNat (wordN a) : Int) else 0
def onesS (a : Int) : Int := (sumN 16 (wordN a) : Int)

theorem outside {n : Int} {l h : Int} (hn : ¬ (l ≤ n ∧ n ≤ h)) : (decide (n < l) || decide (h < n)) = true := by
  by_cases g : n < l
  · simp [g]
  · have : h < n := by omega
    simp [this]
theorem inside {n : Int} {l h : Int} (hn : l ≤ n ∧ n ≤ h) : (decide (n < l) || decide (h < n)) = false := by
  have g1 : ¬ n < l := by omega
  have g2 : ¬ h < n := by omega
  simp [g1, g2]
theorem within_no (v : Value) (n l h : Int) (w : World) (hn : ¬ (l ≤ n ∧ n ≤ h)) :
    Calls Try.prog 45 #[v, .int .i64 n, .int .i64 l, .int .i64 h] w fun e w' => e = .returned (.int .i64 0) ∧ w = w' := by
  by_cases g : n < l
  · go_enter Try.func45, Try.ntmps45
    go_wp2
    go_ret
    exact ⟨rfl, rfl⟩
  · have g2 : h < n := by omega
    go_enter Try.func45, Try.ntmps45
    go_wp2
    go_ret
    exact ⟨rfl, rfl⟩
theorem wrapCode (a : Int) (w : World) :
    Calls Try.prog 10 #[.int .i64 a] w fun e w' => e = .returned (.int .i64 (a % 65536)) ∧ w = w' := by
  have hmf := mkf
  go_enter Try.func10, Try.ntmps10
  go_wp2
  go_ret
  exact ⟨ret1 (by rw [IntKind.wrap_u16]; exact w64 (by omega) (by omega)), rfl⟩
theorem addCode (a b : Int) (w : World) :
    Calls Try.prog 13 #[.int .i64 a, .int .i64 b] w fun e w' => e = .returned (.int .i64 ((a + b) % 65536)) ∧ w = w' := by
  have hmf := mkf
  go_enter Try.func13, Try.ntmps13
  go_wp2
  go_ret
  exact ⟨ret1 (by simp only [IntKind.wrap_u16]; rw [w64 (by omega) (by omega)]; omega), rfl⟩
theorem subCode (a b : Int) (w : World) :
    Calls Try.prog 15 #[.int .i64 a, .int .i64 b] w fun e w' => e = .returned (.int .i64 ((a - b) % 65536)) ∧ w = w' := by
  have hmf := mkf
  go_enter Try.func15, Try.ntmps15
  go_wp2
  go_ret
  exact ⟨ret1 (by simp only [IntKind.wrap_u16]; rw [w64 (by omega) (by omega)]; omega), rfl⟩
theorem mulCode (a b : Int) (w : World) :
    Calls Try.prog 17 #[.int .i64 a, .int .i64 b] w fun e w' => e = .returned (.int .i64 (a * b % 65536)) ∧ w = w' := by
  have hmf := mkf
  go_enter Try.func17, Try.ntmps17
  go_wp2
  go_ret
  exact ⟨ret1 (by simp only [IntKind.wrap_u16]; rw [mulmod]; exact w64 (by omega) (by omega)), rfl⟩
theorem negCode (a : Int) (w : World) :
    Calls Try.prog 19 #[.int .i64 a] w fun e w' => e = .returned (.int .i64 (-a % 65536)) ∧ w = w' := by
  have hmf := mkf
  go_enter Try.func19, Try.ntmps19
  go_wp2
  go_ret
  exact ⟨ret1 (by simp only [IntKind.wrap_u16]; rw [w64 (by omega) (by omega)]; omega), rfl⟩
theorem invCode (a : Int) (w : World) :
    Calls Try.prog 21 #[.int .i64 a] w fun e w' => e = .returned (.int .i64 (65535 - a % 65536)) ∧ w = w' := by
  have hmf := mkf
  go_enter Try.func21, Try.ntmps21
  go_wp2
  go_ret
  refine ⟨ret1 ?_, rfl⟩
  rw [IntKind.wrap_u16, show IntKind.u16.max = 65535 from rfl, u16_xor _ _ (by omega) (by omega) (by omega) (by omega), show (65535 : Int).toNat = 65535 from rfl, xor_all _ (by omega), w64 (by omega) (by omega)]
  omega
theorem shlCode (a n : Int) (w : World) :
    Calls Try.prog 23 #[.int .i64 a, .int .i64 n] w fun e w' => e = .returned (.int .i64 (shlS a n)) ∧ w = w' := by
  have hmf := mkf
  unfold shlS
  by_cases h : 0 ≤ n ∧ n ≤ 15
  · rw [if_pos h]
    have ht := inside h
    obtain ⟨h0, h1⟩ := h
    go_enter Try.func23, Try.ntmps23
    go_wp2
    go_ret
    exact ⟨ret1 (by simp only [IntKind.wrap_u16]; rw [w64 (by omega) (by omega)]; exact mulmod_l _ _), rfl⟩
  · rw [if_neg h]
    go_enter Try.func23, Try.ntmps23
    go_wp2_with (go_at_call 45; refine (within_no _ _ _ _ _ h).mono ?_; rintro e w' ⟨rfl, rfl⟩)
    go_ret
    exact ⟨rfl, rfl⟩
theorem shrCode (a n : Int) (w : World) :
    Calls Try.prog 25 #[.int .i64 a, .int .i64 n] w fun e w' => e = .returned (.int .i64 (shrS a n)) ∧ w = w' := by
  have hmf := mkf
  unfold shrS
  by_cases h : 0 ≤ n ∧ n ≤ 15
  · rw [if_pos h]
    have ht := inside h
    obtain ⟨h0, h1⟩ := h
    go_enter Try.func25, Try.ntmps25
    go_wp2
    go_ret
    exact ⟨ret1 (by simp only [IntKind.wrap_u16]; have := div_bounds (a % 65536) n.toNat (by omega) (by omega); exact w64 (by omega) (by omega)), rfl⟩
  · rw [if_neg h]
    go_enter Try.func25, Try.ntmps25
    go_wp2_with (go_at_call 45; refine (within_no _ _ _ _ _ h).mono ?_; rintro e w' ⟨rfl, rfl⟩)
    go_ret
    exact ⟨rfl, rfl⟩
theorem bitCode (a n : Int) (w : World) :
    Calls Try.prog 28 #[.int .i64 a, .int .i64 n] w fun e w' => e = .returned (.int .i64 (bitS a n)) ∧ w = w' := by
  have hmf := mkf
  unfold bitS
  by_cases h : 0 ≤ n ∧ n ≤ 15
  · rw [if_pos h]
    have ht := inside h
    obtain ⟨h0, h1⟩ := h
    go_enter Try.func28, Try.ntmps28
    go_wp2
    go_ret
    refine ⟨ret1 ?_, rfl⟩
    have hb := div_bounds (a % 65536) n.toNat (by omega) (by omega)
    have e : (a % 65536 / 2 ^ n.toNat).toNat = wordN a / 2 ^ n.toNat := by rw [divNat _ _ (by omega), Int.toNat_natCast]; rfl
    rw [IntKind.wrap_u16, u16_and _ _ hb.1 hb.2 (by omega) (by omega), show (1 : Int).toNat = 1 from rfl, and_one, e]
    have hl := bitN_le (wordN a) n.toNat
    exact w64 (by omega) (by unfold bitN at hl; omega)
  · rw [if_neg h]
    go_enter Try.func28, Try.ntmps28
    go_wp2_with (go_at_call 45; refine (within_no _ _ _ _ _ h).mono ?_; rintro e w' ⟨rfl, rfl⟩)
    go_ret
    exact ⟨rfl, rfl⟩
theorem mask_value (n : Int) (h0 : 0 ≤ n) (h1 : n ≤ 16) : wrap64 (bits .and .u16 65535 (IntKind.u16.wrap (IntKind.u16.wrap (2 ^ n.toNat) - 1))) = 2 ^ n.toNat - 1 := by
  obtain ⟨k, rfl⟩ := Int.eq_ofNat_of_zero_le h0
  have hk : k ≤ 16 := by omega
  have hp := pow_bounds k hk
  have e : (Int.ofNat k).toNat = k := rfl
  simp only [Int.toNat_natCast]
  have hv : IntKind.u16.wrap (IntKind.u16.wrap (2 ^ k) - 1) = 2 ^ k - 1 := by
    simp only [IntKind.wrap_u16]
    generalize (2 : Int) ^ k = p at *
    omega
  rw [hv, u16_and _ _ (by omega) (by omega) (by omega) (by omega), show (65535 : Int).toNat = 65535 from rfl, and_all _ (by omega), w64 (by omega) (by omega)]
  omega
theorem maskCode (n : Int) (w : World) :
    Calls Try.prog 27 #[.int .i64 n] w fun e w' => e = .returned (.int .i64 (maskS n)) ∧ w = w' := by
  have hmf := mkf
  unfold maskS
  by_cases h : 0 ≤ n ∧ n ≤ 16
  · rw [if_pos h]
    have ht := inside h
    obtain ⟨h0, h1⟩ := h
    go_enter Try.func27, Try.ntmps27
    go_wp2
    go_ret
    exact ⟨ret1 (mask_value n h0 h1), rfl⟩
  · rw [if_neg h]
    go_enter Try.func27, Try.ntmps27
    go_wp2_with (go_at_call 45; refine (within_no _ _ _ _ _ h).mono ?_; rintro e w' ⟨rfl, rfl⟩)
    go_ret
    exact ⟨rfl, rfl⟩
end Go.Proofs.Ytgicoeelplklnaa.WordW
