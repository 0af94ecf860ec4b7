/-
  What each function of package word, and each function of its reference, returns: one contract a function.
-/
import Derived.Test.YtdiackcefojfkaaGreatDoorExWordBits
import Derived.Test.YtdiackcefojfkaaGreatDoorRows
import Derived.WalkKit
import Derived.Outline
import Derived.WalkSpells
import Derived.Deep.DeepFit
import Derived.Lib.Hide
import Derived.LoopTactic
import Derived.Deep.QuietTactic
import Derived.BigQuiet
namespace Go.Proofs.YtdiackcefojfkaaGreatDoor.WordW
open Go Go.RowKit Go.Proofs.YtdiackcefojfkaaGreatDoor.WordM

theorem mkf (fn : Fn) (first cap : Array Value) (w : World) : (Instr.makeFunc fn first cap).run Tryz.prog w = .ok (.func fn first cap) w := rfl
theorem w64 {x : Int} (h0 : 0 ≤ x) (h1 : x < 9223372036854775808) : wrap64 x = x := by unfold wrap64; omega
theorem u16s {x : Int} (h0 : 0 ≤ x) (h1 : x < 65536) : IntKind.u16.wrap x = x := by rw [IntKind.wrap_u16]; omega

/-- What Shl, Shr, Bit, Mask, Fits and Reverse return. -/
def shlS (a n : Int) : Int := if 0 ≤ n ∧ n ≤ 15 then a * 2 ^ n.toNat % 65536 else 0
def shrS (a n : Int) : Int := if 0 ≤ n ∧ n ≤ 15 then a % 65536 / 2 ^ n.toNat else 0
def bitS (a n : Int) : Int := if 0 ≤ n ∧ n ≤ 15 then (bitN (wordN a) n.toNat : Int) else 0
def maskS (n : Int) : Int := if 0 ≤ n ∧ n ≤ 16 then 2 ^ n.toNat - 1 else 0
def fitsS (a n : Int) : Bool := if 1 ≤ n ∧ n ≤ 16 ∧ 0 ≤ a then decide (a ≤ maskS n) else false
def revS (a n : Int) : Int := if 1 ≤ n ∧ n ≤ 16 then (revN n.toNat (wordN a) : Int) else 0
def onesS (a : Int) : Int := (sumN 16 (wordN a) : Int)

theorem outside {n : Int} {l h : Int} (hn : ¬ (l ≤ n ∧ n ≤ h)) : (decide (n < l) || decide (h < n)) = true := by
  by_cases g : n < l
  · simp [g]
  · have : h < n := by omega
    simp [this]
theorem inside {n : Int} {l h : Int} (hn : l ≤ n ∧ n ≤ h) : (decide (n < l) || decide (h < n)) = false := by
  have g1 : ¬ n < l := by omega
  have g2 : ¬ h < n := by omega
  simp [g1, g2]
theorem within_no (v : Value) (n l h : Int) (w : World) (hn : ¬ (l ≤ n ∧ n ≤ h)) :
    Calls Tryz.prog 117 #[v, .int .i64 n, .int .i64 l, .int .i64 h] w fun e w' => e = .returned (.int .i64 0) ∧ w = w' := by
  by_cases g : n < l
  · go_enter Tryz.func117, Tryz.ntmps117
    go_wp2
    go_ret
    exact ⟨rfl, rfl⟩
  · have g2 : h < n := by omega
    go_enter Tryz.func117, Tryz.ntmps117
    go_wp2
    go_ret
    exact ⟨rfl, rfl⟩
theorem wrapCode (a : Int) (w : World) :
    Calls Tryz.prog 85 #[.int .i64 a] w fun e w' => e = .returned (.int .i64 (a % 65536)) ∧ w = w' := by
  have hmf := mkf
  go_enter Tryz.func85, Tryz.ntmps85
  go_wp2
  go_ret
  exact ⟨ret1 (by rw [IntKind.wrap_u16]; exact w64 (by omega) (by omega)), rfl⟩
theorem addCode (a b : Int) (w : World) :
    Calls Tryz.prog 87 #[.int .i64 a, .int .i64 b] w fun e w' => e = .returned (.int .i64 ((a + b) % 65536)) ∧ w = w' := by
  have hmf := mkf
  go_enter Tryz.func87, Tryz.ntmps87
  go_wp2
  go_ret
  exact ⟨ret1 (by simp only [IntKind.wrap_u16]; rw [w64 (by omega) (by omega)]; omega), rfl⟩
theorem subCode (a b : Int) (w : World) :
    Calls Tryz.prog 92 #[.int .i64 a, .int .i64 b] w fun e w' => e = .returned (.int .i64 ((a - b) % 65536)) ∧ w = w' := by
  have hmf := mkf
  go_enter Tryz.func92, Tryz.ntmps92
  go_wp2
  go_ret
  exact ⟨ret1 (by simp only [IntKind.wrap_u16]; rw [w64 (by omega) (by omega)]; omega), rfl⟩
theorem mulCode (a b : Int) (w : World) :
    Calls Tryz.prog 93 #[.int .i64 a, .int .i64 b] w fun e w' => e = .returned (.int .i64 (a * b % 65536)) ∧ w = w' := by
  have hmf := mkf
  go_enter Tryz.func93, Tryz.ntmps93
  go_wp2
  go_ret
  exact ⟨ret1 (by simp only [IntKind.wrap_u16]; rw [mulmod]; exact w64 (by omega) (by omega)), rfl⟩
theorem negCode (a : Int) (w : World) :
    Calls Tryz.prog 90 #[.int .i64 a] w fun e w' => e = .returned (.int .i64 (-a % 65536)) ∧ w = w' := by
  have hmf := mkf
  go_enter Tryz.func90, Tryz.ntmps90
  go_wp2
  go_ret
  exact ⟨ret1 (by simp only [IntKind.wrap_u16]; rw [w64 (by omega) (by omega)]; omega), rfl⟩
theorem invCode (a : Int) (w : World) :
    Calls Tryz.prog 89 #[.int .i64 a] w fun e w' => e = .returned (.int .i64 (65535 - a % 65536)) ∧ w = w' := by
  have hmf := mkf
  go_enter Tryz.func89, Tryz.ntmps89
  go_wp2
  go_ret
  refine ⟨ret1 ?_, rfl⟩
  rw [IntKind.wrap_u16, show IntKind.u16.max = 65535 from rfl, u16_xor _ _ (by omega) (by omega) (by omega) (by omega), show (65535 : Int).toNat = 65535 from rfl, xor_all _ (by omega), w64 (by omega) (by omega)]
  omega
theorem shlCode (a n : Int) (w : World) :
    Calls Tryz.prog 94 #[.int .i64 a, .int .i64 n] w fun e w' => e = .returned (.int .i64 (shlS a n)) ∧ w = w' := by
  have hmf := mkf
  unfold shlS
  by_cases h : 0 ≤ n ∧ n ≤ 15
  · rw [if_pos h]
    have ht := inside h
    obtain ⟨h0, h1⟩ := h
    go_enter Tryz.func94, Tryz.ntmps94
    go_wp2
    go_ret
    exact ⟨ret1 (by simp only [IntKind.wrap_u16]; rw [w64 (by omega) (by omega)]; exact mulmod_l _ _), rfl⟩
  · rw [if_neg h]
    go_enter Tryz.func94, Tryz.ntmps94
    go_wp2_with (go_at_call 117; refine (within_no _ _ _ _ _ h).mono ?_; rintro e w' ⟨rfl, rfl⟩)
    go_ret
    exact ⟨rfl, rfl⟩
theorem shrCode (a n : Int) (w : World) :
    Calls Tryz.prog 95 #[.int .i64 a, .int .i64 n] w fun e w' => e = .returned (.int .i64 (shrS a n)) ∧ w = w' := by
  have hmf := mkf
  unfold shrS
  by_cases h : 0 ≤ n ∧ n ≤ 15
  · rw [if_pos h]
    have ht := inside h
    obtain ⟨h0, h1⟩ := h
    go_enter Tryz.func95, Tryz.ntmps95
    go_wp2
    go_ret
    exact ⟨ret1 (by simp only [IntKind.wrap_u16]; have := div_bounds (a % 65536) n.toNat (by omega) (by omega); exact w64 (by omega) (by omega)), rfl⟩
  · rw [if_neg h]
    go_enter Tryz.func95, Tryz.ntmps95
    go_wp2_with (go_at_call 117; refine (within_no _ _ _ _ _ h).mono ?_; rintro e w' ⟨rfl, rfl⟩)
    go_ret
    exact ⟨rfl, rfl⟩
theorem mask_value (n : Int) (h0 : 0 ≤ n) (h1 : n ≤ 16) : wrap64 (bits .and .u16 65535 (IntKind.u16.wrap (IntKind.u16.wrap (2 ^ n.toNat) - 1))) = 2 ^ n.toNat - 1 := by
  obtain ⟨k, rfl⟩ := Int.eq_ofNat_of_zero_le h0
  have hk : k ≤ 16 := by omega
  have hp := pow_bounds k hk
  have e : (Int.ofNat k).toNat = k := rfl
  simp only [Int.toNat_natCast]
  have hv : IntKind.u16.wrap (IntKind.u16.wrap (2 ^ k) - 1) = 2 ^ k - 1 := by
    simp only [IntKind.wrap_u16]
    generalize (2 : Int) ^ k = p at *
    omega
  rw [hv, u16_and _ _ (by omega) (by omega) (by omega) (by omega), show (65535 : Int).toNat = 65535 from rfl, and_all _ (by omega), w64 (by omega) (by omega)]
  omega
end Go.Proofs.YtdiackcefojfkaaGreatDoor.WordW
