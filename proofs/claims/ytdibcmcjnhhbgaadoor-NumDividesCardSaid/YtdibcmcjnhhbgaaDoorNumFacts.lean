/-
  Plain facts behind the laws: the remainder of a division by floors, a further factor, common divisors and multiples. No program in sight.
-/
import Derived.Test.YtdibcmcjnhhbgaaDoorNumMath
namespace Go.Proofs.YtdibcmcjnhhbgaaDoor.NumM
open Go Go.RowKit

/-! Quotient and remainder -/
theorem quoS_rem {a b : Int} (hb : b ≠ 0) : (0 < b → 0 ≤ a - quoS a b * b ∧ a - quoS a b * b < b) ∧ (b < 0 → a - quoS a b * b ≤ 0 ∧ b < a - quoS a b * b) := by
  have e := Int.tmod_add_mul_tdiv a b
  have hl : (a.tmod b).natAbs < b.natAbs := by
    rw [Int.natAbs_tmod]; exact Nat.mod_lt _ (by omega)
  have hs : a.tmod b ≠ 0 → ((a.tmod b < 0) ↔ (a < 0)) := tmod_neg_iff
  have hz : b * a.tdiv b = a.tdiv b * b := Int.mul_comm _ _
  have h1 : (a.tdiv b - 1) * b = a.tdiv b * b - b := by rw [Int.sub_mul, Int.one_mul]
  unfold quoS
  by_cases c : ((a.tmod b != 0) && !(decide (a < 0) == decide (b < 0))) = true
  · rw [if_pos c, h1]
    simp only [Bool.and_eq_true, bne_iff_ne, ne_eq, Bool.not_eq_true', beq_eq_false_iff_ne, decide_eq_decide] at c
    have := hs c.1
    generalize a.tdiv b * b = q at *
    generalize a.tmod b = r at *
    omega
  · rw [if_neg c]
    have c' : a.tmod b = 0 ∨ (a < 0 ↔ b < 0) := by
      by_cases z : a.tmod b = 0
      · exact .inl z
      · right
        simp only [Bool.and_eq_true, bne_iff_ne, ne_eq, Bool.not_eq_true', beq_eq_false_iff_ne, decide_eq_decide, not_and, Decidable.not_not] at c
        exact c z
    generalize a.tdiv b * b = q at *
    generalize a.tmod b = r at *
    rcases c' with z | z
    · omega
    · by_cases y : r = 0
      · omega
      · have := hs y; omega
theorem wrap_rem {a x : Int} (h0 : -9223372036854775808 ≤ a - x) (h1 : a - x ≤ 9223372036854775807) : wrap64 (a - wrap64 x) = a - x := by
  unfold wrap64; omega

/-! Powers -/
theorem pow_next {a n : Int} (hn : 0 ≤ n) : powS a (n + 1) = lim (a ^ n.toNat * a) := by
  rw [powS, if_neg (by omega), show (n + 1).toNat = n.toNat + 1 by omega, Int.pow_succ]

/-! Common divisors and multiples -/
theorem gcdS_cases {a b : Int} (a0 : -9223372036854775808 ≤ a) (a1 : a ≤ 9223372036854775807) (b0 : -9223372036854775808 ≤ b) (b1 : b ≤ 9223372036854775807) :
    (gcdS a b = 0 ∧ (a = 0 ∨ a = -9223372036854775808) ∧ (b = 0 ∨ b = -9223372036854775808)) ∨
    (gcdS a b = (Int.gcd a b : Int) ∧ 1 ≤ Int.gcd a b ∧ (Int.gcd a b : Int) ≤ 9223372036854775807) := by
  have d1 : Int.gcd a b ∣ a.natAbs := Nat.gcd_dvd_left _ _
  have d2 : Int.gcd a b ∣ b.natAbs := Nat.gcd_dvd_right _ _
  by_cases h : (Int.gcd a b : Int) ≤ 9223372036854775807
  · by_cases z : Int.gcd a b = 0
    · left
      have := Int.gcd_eq_zero_iff.1 z
      refine ⟨by unfold gcdS; rw [if_pos h, z]; rfl, .inl this.1, .inl this.2⟩
    · right; exact ⟨by unfold gcdS; rw [if_pos h], by omega, h⟩
  · left
    refine ⟨by unfold gcdS; rw [if_neg h], ?_, ?_⟩
    · by_cases z : a.natAbs = 0
      · left; omega
      · have := Nat.le_of_dvd (by omega) d1; right; omega
    · by_cases z : b.natAbs = 0
      · left; omega
      · have := Nat.le_of_dvd (by omega) d2; right; omega
theorem gcd_left {a b : Int} : a.tmod (Int.gcd a b : Int) = 0 := Int.tmod_eq_zero_of_dvd (Int.gcd_dvd_left ..)
theorem gcd_right {a b : Int} : b.tmod (Int.gcd a b : Int) = 0 := Int.tmod_eq_zero_of_dvd (Int.gcd_dvd_right ..)
theorem gcd_great {a b c : Int} (_hc : c ≠ 0) (h1 : a.tmod c = 0) (h2 : b.tmod c = 0) : (Int.gcd a b : Int).tmod c = 0 :=
  Int.tmod_eq_zero_of_dvd (Int.dvd_coe_gcd (Int.dvd_of_tmod_eq_zero h1) (Int.dvd_of_tmod_eq_zero h2))
/-- Gcd times Lcm is the size of the product. -/
theorem gcd_lcm (a b : Int) : (Int.gcd a b : Int) * ((a.natAbs / Int.gcd a b : Nat) * (b.natAbs : Int)) = ((a * b).natAbs : Int) := by
  have d1 : Int.gcd a b ∣ a.natAbs := Nat.gcd_dvd_left _ _
  rw [← Int.mul_assoc, ← Int.natCast_mul, Nat.mul_div_cancel' d1, Int.natAbs_mul, Int.natCast_mul]
theorem lim_in (x : Int) : -9223372036854775808 ≤ (lim x).1 ∧ (lim x).1 ≤ 9223372036854775807 := by
  cases h : okI x
  · rw [lim_no h]; decide
  · rw [lim_ok h]; exact okI_iff.1 h
theorem powS_in (a n : Int) : -9223372036854775808 ≤ (powS a n).1 ∧ (powS a n).1 ≤ 9223372036854775807 := by
  unfold powS; split
  · decide
  · exact lim_in _
theorem lcmS_in (a b : Int) : -9223372036854775808 ≤ (lcmS a b).1 ∧ (lcmS a b).1 ≤ 9223372036854775807 := by
  unfold lcmS; split
  · decide
  · split
    · decide
    · exact lim_in _
theorem lim_zero {x : Int} (h : (lim x).2 = 0) : okI x = true ∧ (lim x).1 = x := by
  cases g : okI x
  · rw [lim_no g] at h; cases h
  · rw [lim_ok g]; exact ⟨rfl, rfl⟩
theorem pow_step {a n : Int} (h : (powS a n).2 = 0) : powS a (n + 1) = lim ((powS a n).1 * a) := by
  by_cases hn : n < 0
  · rw [powS, if_pos hn] at h; cases h
  · have e : powS a n = lim (a ^ n.toNat) := by rw [powS, if_neg hn]
    rw [e] at h ⊢
    rw [(lim_zero h).2]; exact pow_next (by omega)
theorem lcm_prod {a b : Int} (h : (lcmS a b).2 = 0) : (Int.gcd a b : Int) * (lcmS a b).1 = ((a * b).natAbs : Int) := by
  by_cases z : a = 0 ∨ b = 0
  · rw [lcmS, if_pos z]
    rcases z with rfl | rfl <;> simp
  · by_cases m : a = -9223372036854775808 ∨ b = -9223372036854775808
    · rw [lcmS, if_neg z, if_pos m] at h; cases h
    · have e : lcmS a b = lim ((a.natAbs / Int.gcd a b : Nat) * (b.natAbs : Int)) := by rw [lcmS, if_neg z, if_neg m]
      rw [e] at h ⊢
      rw [(lim_zero h).2]; exact gcd_lcm a b
/-- What becomes of the product of Gcd and Lcm: five cases, each as the walk meets it. -/
def MultCase (a b G : Int) : Prop :=
  ((lcmS a b).2 == 0) = false ∨ ((lcmS a b).2 = 0 ∧ ((lim (a * b)).2 == 0) = false) ∨
  (∃ p : Int, (lcmS a b).2 = 0 ∧ (lim (a * b)).2 = 0 ∧ (lim (a * b)).1 = p ∧ (p == -9223372036854775808) = true) ∨
  (∃ p : Int, (lcmS a b).2 = 0 ∧ (lim (a * b)).2 = 0 ∧ (lim (a * b)).1 = p ∧ (p == -9223372036854775808) = false ∧ -9223372036854775808 < p ∧ p < 0 ∧ (lim (G * (lcmS a b).1)).2 = 0 ∧ (lim (G * (lcmS a b).1)).1 = -p) ∨
  (∃ p : Int, (lcmS a b).2 = 0 ∧ (lim (a * b)).2 = 0 ∧ (lim (a * b)).1 = p ∧ (p == -9223372036854775808) = false ∧ 0 ≤ p ∧ p ≤ 9223372036854775807 ∧ (lim (G * (lcmS a b).1)).2 = 0 ∧ (lim (G * (lcmS a b).1)).1 = p)
theorem mult_cases (a b : Int) : MultCase a b (Int.gcd a b) := by
  unfold MultCase
  by_cases l0 : (lcmS a b).2 = 0
  · have K := lcm_prod l0
    by_cases f0 : (lim (a * b)).2 = 0
    · obtain ⟨fo, fe⟩ := lim_zero f0
      have fb := okI_iff.1 fo
      by_cases m0 : a * b = -9223372036854775808
      · exact .inr (.inr (.inl ⟨a * b, l0, f0, fe, by simpa using m0⟩))
      · have m1 : (a * b == -9223372036854775808) = false := by simpa using m0
        have o : okI (((a * b).natAbs : Nat) : Int) = true := okI_iff.2 (by omega)
        rw [K, lim_ok o]
        by_cases n0 : a * b < 0
        · exact .inr (.inr (.inr (.inl ⟨a * b, l0, f0, fe, m1, by omega, n0, rfl, by show (((a * b).natAbs : Nat) : Int) = _; omega⟩)))
        · exact .inr (.inr (.inr (.inr ⟨a * b, l0, f0, fe, m1, by omega, fb.2, rfl, by show (((a * b).natAbs : Nat) : Int) = _; omega⟩)))
    · exact .inr (.inl ⟨l0, by simpa using f0⟩)
  · exact .inl (by simpa using l0)
theorem third_cases (a b c : Int) : (c == 0) = true ∨ ((c == 0) = false ∧ ((a.tmod c == 0) = false ∨ ((a.tmod c == 0) = true ∧ (b.tmod c == 0) = false) ∨
    ((a.tmod c == 0) = true ∧ (b.tmod c == 0) = true ∧ (Int.gcd a b : Int) % c = 0))) := by
  by_cases z : c = 0
  · left; simpa using z
  · right
    refine ⟨by simpa using z, ?_⟩
    by_cases x : a.tmod c = 0
    · by_cases y : b.tmod c = 0
      · have e := gcd_great z x y
        rw [Int.tmod_eq_emod_of_nonneg (Int.natCast_nonneg _)] at e
        exact .inr (.inr ⟨by simpa using x, by simpa using y, e⟩)
      · exact .inr (.inl ⟨by simpa using x, by simpa using y⟩)
    · exact .inl (by simpa using x)
end Go.Proofs.YtdibcmcjnhhbgaaDoor.NumM
