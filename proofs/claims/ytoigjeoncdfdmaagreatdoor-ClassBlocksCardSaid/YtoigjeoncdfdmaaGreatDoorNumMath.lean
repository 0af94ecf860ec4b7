/-
  Plain facts about integers of 64 bits: what fits, what wraps, quotients, powers and common divisors. No program in sight.
-/
import Derived.IntWalk
import Derived.Laws.Bits64
namespace Go.Proofs.YtoigjeoncdfdmaaGreatDoor.NumM
open Go Go.RowKit

/-- The number is an int. -/
def okI (x : Int) : Bool := decide (-9223372036854775808 ≤ x ∧ x ≤ 9223372036854775807)
/-- The number and no error, or 0 and the error for what does not fit. -/
def lim (x : Int) : Int × Int := if okI x then (x, 0) else (0, 3)

theorem okI_iff {x : Int} : okI x = true ↔ -9223372036854775808 ≤ x ∧ x ≤ 9223372036854775807 := by simp [okI]
theorem okI_no {x : Int} : okI x = false ↔ x < -9223372036854775808 ∨ 9223372036854775807 < x := by
  unfold okI; rw [decide_eq_false_iff_not]; omega
theorem lim_ok {x : Int} (h : okI x = true) : lim x = (x, 0) := by simp [lim, h]
theorem lim_no {x : Int} (h : okI x = false) : lim x = (0, 3) := by simp [lim, h]
theorem wrap_ok {x : Int} (h : okI x = true) : wrap64 x = x := by rw [okI_iff] at h; unfold wrap64; omega
theorem wrap_sum_hi {a b : Int} (ha : a ≤ 9223372036854775807) (hb : b ≤ 9223372036854775807) (h : 9223372036854775807 < a + b) : wrap64 (a + b) < a ∧ wrap64 (a + b) < b := by
  unfold wrap64; omega
theorem add_code_no (a b : Int) (_a0 : -9223372036854775808 ≤ a) (a1 : a ≤ 9223372036854775807) (b0 : -9223372036854775808 ≤ b) (b1 : b ≤ 9223372036854775807)
    (h : (!decide (0 ≤ b) == decide (a ≤ wrap64 (a + b))) = true) : ((0 : Int), (3 : Int)) = lim (a + b) := by
  rw [lim_no]
  rw [okI_no]
  simp only [Bool.not_eq_true', beq_eq_false_iff_ne, ne_eq, decide_eq_decide] at h
  unfold wrap64 at h
  omega
theorem add_code_ok (a b : Int) (_a0 : -9223372036854775808 ≤ a) (a1 : a ≤ 9223372036854775807) (b0 : -9223372036854775808 ≤ b) (b1 : b ≤ 9223372036854775807)
    (h : (!decide (0 ≤ b) == decide (a ≤ wrap64 (a + b))) = false) : (wrap64 (a + b), (0 : Int)) = lim (a + b) := by
  have g : okI (a + b) = true := by
    rw [okI_iff]
    simp only [Bool.not_eq_false', beq_iff_eq, decide_eq_decide] at h
    unfold wrap64 at h
    omega
  rw [lim_ok g, wrap_ok g]
theorem sub_code_no (a b : Int) (a0 : -9223372036854775808 ≤ a) (a1 : a ≤ 9223372036854775807) (b0 : -9223372036854775808 ≤ b) (b1 : b ≤ 9223372036854775807)
    (h : (!decide (0 ≤ b) == decide (wrap64 (a - b) ≤ a)) = true) : ((0 : Int), (3 : Int)) = lim (a - b) := by
  rw [lim_no]
  rw [okI_no]
  simp only [Bool.not_eq_true', beq_eq_false_iff_ne, ne_eq, decide_eq_decide] at h
  unfold wrap64 at h
  omega
theorem sub_code_ok (a b : Int) (a0 : -9223372036854775808 ≤ a) (a1 : a ≤ 9223372036854775807) (b0 : -9223372036854775808 ≤ b) (b1 : b ≤ 9223372036854775807)
    (h : (!decide (0 ≤ b) == decide (wrap64 (a - b) ≤ a)) = false) : (wrap64 (a - b), (0 : Int)) = lim (a - b) := by
  have g : okI (a - b) = true := by
    rw [okI_iff]
    simp only [Bool.not_eq_false', beq_iff_eq, decide_eq_decide] at h
    unfold wrap64 at h
    omega
  rw [lim_ok g, wrap_ok g]
/-- Any way through the reference's sum. -/
theorem add_no {a b : Int} (h : 9223372036854775807 < a + b ∨ a + b < -9223372036854775808) : ((0 : Int), (3 : Int)) = lim (a + b) := by
  rw [lim_no]; rw [okI_no]; omega
theorem add_ok {a b : Int} (h : okI (a + b) = true) : (wrap64 (a + b), (0 : Int)) = lim (a + b) := by
  rw [lim_ok h, wrap_ok h]

/-- The product, wrapped, divided by a factor gives the other factor exactly if it did not wrap. -/
theorem wrap_form (x : Int) : ∃ k : Int, wrap64 x = x + 18446744073709551616 * k := by
  refine ⟨-((x + 9223372036854775808) / 18446744073709551616), ?_⟩
  unfold wrap64
  have := Int.emod_add_mul_ediv (x + 9223372036854775808) 18446744073709551616
  omega
theorem tdiv_close {x a b : Int} (ha : a ≠ 0) (h : x.tdiv a = b) : (x - a * b).natAbs < a.natAbs := by
  have e := Int.tmod_add_mul_tdiv x a
  have hl : (x.tmod a).natAbs < a.natAbs := by
    have := Int.natAbs_tmod x a
    rw [this]
    exact Nat.mod_lt _ (by omega)
  rw [h] at e
  have : x - a * b = x.tmod a := by omega
  rw [this]; exact hl
theorem mul_back {a b : Int} (a0 : -9223372036854775808 ≤ a) (a1 : a ≤ 9223372036854775807) (ha : a ≠ 0) :
    (wrap64 (a * b)).tdiv a = b ↔ okI (a * b) = true := by
  constructor
  · intro h
    have hc := tdiv_close ha h
    obtain ⟨k, hk⟩ := wrap_form (a * b)
    have hw : -9223372036854775808 ≤ wrap64 (a * b) ∧ wrap64 (a * b) ≤ 9223372036854775807 := by unfold wrap64; omega
    rw [okI_iff]
    generalize a * b = p at *
    generalize wrap64 p = q at *
    omega
  · intro h
    rw [wrap_ok h, Int.mul_tdiv_cancel_left _ ha]

/-- The quotient rounded down, as the program makes it. -/
def quoS (a b : Int) : Int := if (a.tmod b != 0) && !(decide (a < 0) == decide (b < 0)) then a.tdiv b - 1 else a.tdiv b
def divS (a b : Int) : Int × Int := if b = 0 then (0, 4) else if b = -1 then lim (-a) else (quoS a b, 0)
theorem tdiv_in {a b : Int} (a0 : -9223372036854775808 ≤ a) (a1 : a ≤ 9223372036854775807) (_hb : b ≠ 0) (hb1 : b ≠ -1) :
    -9223372036854775808 ≤ a.tdiv b ∧ a.tdiv b ≤ 9223372036854775807 := by
  have h := Int.natAbs_tdiv a b
  have h2 : a.natAbs / b.natAbs ≤ a.natAbs := Nat.div_le_self _ _
  by_cases e : b.natAbs = 1
  · obtain rfl : b = 1 := by omega
    rw [Int.tdiv_one]; omega
  · have h3 : a.natAbs / b.natAbs ≤ a.natAbs / 2 := Nat.div_le_div_left (by omega) (by omega)
    have h4 : a.natAbs.div b.natAbs = a.natAbs / b.natAbs := rfl
    omega
theorem tdiv_in1 {a b : Int} (a0 : -9223372036854775808 ≤ a) (a1 : a ≤ 9223372036854775807) (hb : b ≠ 0) (hb1 : b ≠ -1) (h : a.tmod b ≠ 0) :
    -9223372036854775808 ≤ a.tdiv b - 1 ∧ a.tdiv b - 1 ≤ 9223372036854775807 := by
  have h0 := tdiv_in a0 a1 hb hb1
  by_cases e : b.natAbs = 1
  · obtain rfl : b = 1 := by omega
    simp at h
  · have hh := Int.natAbs_tdiv a b
    have h3 : a.natAbs / b.natAbs ≤ a.natAbs / 2 := Nat.div_le_div_left (by omega) (by omega)
    have h4 : a.natAbs.div b.natAbs = a.natAbs / b.natAbs := rfl
    omega
theorem sub_no {a b : Int} (h : 9223372036854775807 < a - b ∨ a - b < -9223372036854775808) : ((0 : Int), (3 : Int)) = lim (a - b) := by
  rw [lim_no]; rw [okI_no]; omega
theorem sub_ok {a b : Int} (h : okI (a - b) = true) : (wrap64 (a - b), (0 : Int)) = lim (a - b) := by
  rw [lim_ok h, wrap_ok h]
theorem mul_no {a b : Int} (h : ¬ okI (a * b) = true) : ((0 : Int), (3 : Int)) = lim (a * b) := by
  rw [lim_no (by simpa using h)]
theorem mul_ok {a b : Int} (h : okI (a * b) = true) : (wrap64 (a * b), (0 : Int)) = lim (a * b) := by
  rw [lim_ok h, wrap_ok h]
theorem sub_least {a : Int} (h : a < 0) (a0 : -9223372036854775808 ≤ a) : (a + 9223372036854775808, (0 : Int)) = lim (a - -9223372036854775808) := by
  rw [lim_ok (by rw [okI_iff]; omega)]; simp
theorem mul_test (a b : Int) (a0 : -9223372036854775808 ≤ a) (a1 : a ≤ 9223372036854775807) (ha : a ≠ 0) (ha1 : a ≠ -1) :
    (wrap64 ((wrap64 (a * b)).tdiv a) != b) = !okI (a * b) := by
  have hw : -9223372036854775808 ≤ wrap64 (a * b) ∧ wrap64 (a * b) ≤ 9223372036854775807 := by unfold wrap64; omega
  have hi := tdiv_in hw.1 hw.2 ha ha1
  have e : wrap64 ((wrap64 (a * b)).tdiv a) = (wrap64 (a * b)).tdiv a := wrap_ok (okI_iff.2 hi)
  have hm := mul_back (b := b) a0 a1 ha
  rw [e]
  cases g : okI (a * b)
  · rw [g] at hm
    simp only [Bool.not_false, bne_iff_ne, ne_eq]
    intro x; have := hm.1 x; cases this
  · rw [hm.2 g]; simp
theorem mul_testR (a b : Int) (b0 : -9223372036854775808 ≤ b) (b1 : b ≤ 9223372036854775807) (hb : b ≠ 0) (hb1 : b ≠ -1) :
    (wrap64 ((wrap64 (a * b)).tdiv b) != a) = !okI (a * b) := by
  rw [Int.mul_comm]; exact mul_test b a b0 b1 hb hb1
theorem neg_test (b : Int) (b0 : -9223372036854775808 < b) (b1 : b ≤ 9223372036854775807) (hb : b ≠ 0) :
    (wrap64 ((wrap64 (-b)).tdiv b) != -1) = false := by
  have e : wrap64 (-b) = -b := wrap_ok (okI_iff.2 ⟨by omega, by omega⟩)
  rw [e, Int.neg_tdiv, Int.tdiv_self hb]
  unfold wrap64; rfl
theorem neg_neg_test (a : Int) (a0 : -9223372036854775808 < a) (a1 : a ≤ 9223372036854775807) : (wrap64 (-wrap64 (-a)) != a) = false := by
  have e : wrap64 (-a) = -a := wrap_ok (okI_iff.2 ⟨by omega, by omega⟩)
  rw [e, wrap_ok (okI_iff.2 ⟨by omega, by omega⟩)]
  simp
theorem lim_least : ((0 : Int), (3 : Int)) = lim (-1 * -9223372036854775808) := rfl
theorem lim_least' : ((0 : Int), (3 : Int)) = lim (-9223372036854775808 * -1) := rfl
theorem neg_ok {b : Int} (b0 : -9223372036854775808 < b) (b1 : b ≤ 9223372036854775807) : (-b, (0 : Int)) = lim (-1 * b) := by
  have g : okI (-b) = true := okI_iff.2 ⟨by omega, by omega⟩
  rw [show -1 * b = -b by omega, lim_ok g]
theorem neg_ok' {b : Int} (b0 : -9223372036854775808 < b) (b1 : b ≤ 9223372036854775807) : (-b, (0 : Int)) = lim (b * -1) := by
  rw [Int.mul_comm]; exact neg_ok b0 b1
theorem neg_ok'' {b : Int} (b0 : -9223372036854775808 < b) (b1 : b ≤ 9223372036854775807) : (-b, (0 : Int)) = lim (-b) := by
  have g : okI (-b) = true := okI_iff.2 ⟨by omega, by omega⟩
  rw [lim_ok g]
theorem size_neg {a : Int} (a0 : -9223372036854775808 ≤ a) (h : a < 0) : IntKind.u64.wrap (-IntKind.u64.wrap a) = (a.natAbs : Int) := by
  rw [IntKind.wrap_u64, IntKind.wrap_u64]; omega
theorem size_pos {a : Int} (a1 : a ≤ 9223372036854775807) (h : 0 ≤ a) : IntKind.u64.wrap a = (a.natAbs : Int) := by
  rw [IntKind.wrap_u64]; omega

theorem tmod_neg_iff {a b : Int} (h : a.tmod b ≠ 0) : (a.tmod b < 0) ↔ (a < 0) := by
  constructor
  · intro x
    by_cases g : 0 ≤ a
    · have := Int.tmod_nonneg b g; omega
    · omega
  · intro x
    have := Int.tmod_nonneg b (a := -a) (by omega)
    rw [Int.neg_tmod] at this
    omega
/-- The ways through a division: no remainder; a remainder and two signs; a remainder and one sign. -/
theorem quo_even {a b : Int} (a0 : -9223372036854775808 ≤ a) (a1 : a ≤ 9223372036854775807) (hb : b ≠ 0) (hb1 : b ≠ -1) (h : a.tmod b = 0) :
    (wrap64 (a.tdiv b), (0 : Int)) = (quoS a b, 0) := by
  rw [wrap_ok (okI_iff.2 (tdiv_in a0 a1 hb hb1))]; simp [quoS, h]
theorem quo_down {a b : Int} (a0 : -9223372036854775808 ≤ a) (a1 : a ≤ 9223372036854775807) (hb : b ≠ 0) (hb1 : b ≠ -1) (h : ¬ a.tmod b = 0)
    (hs : (!decide (a < 0) == decide (b < 0)) = true) : (wrap64 (wrap64 (a.tdiv b) - 1), (0 : Int)) = (quoS a b, 0) := by
  rw [wrap_ok (okI_iff.2 (tdiv_in a0 a1 hb hb1)), wrap_ok (okI_iff.2 (tdiv_in1 a0 a1 hb hb1 h))]
  have : (a.tmod b != 0) = true := by simpa using h
  simp only [quoS, this, hs, Bool.and_self, if_true]
theorem quo_stay {a b : Int} (a0 : -9223372036854775808 ≤ a) (a1 : a ≤ 9223372036854775807) (hb : b ≠ 0) (hb1 : b ≠ -1)
    (hs : (a.tmod b != 0) = false ∨ (!decide (a < 0) == decide (b < 0)) = false) : (wrap64 (a.tdiv b), (0 : Int)) = (quoS a b, 0) := by
  rw [wrap_ok (okI_iff.2 (tdiv_in a0 a1 hb hb1))]
  rcases hs with h | h <;> simp only [quoS, h, Bool.and_false, Bool.false_and, Bool.false_eq_true, if_false]
theorem quo_downR {a b : Int} (a0 : -9223372036854775808 ≤ a) (a1 : a ≤ 9223372036854775807) (hb : b ≠ 0) (hb1 : b ≠ -1) (h : ¬ a.tmod b = 0)
    (hs : (!decide (a.tmod b < 0) == decide (b < 0)) = true) : (wrap64 (wrap64 (a.tdiv b) - 1), (0 : Int)) = (quoS a b, 0) :=
  quo_down a0 a1 hb hb1 h (by rwa [decide_eq_decide.2 (tmod_neg_iff h)] at hs)
theorem quo_stayR {a b : Int} (a0 : -9223372036854775808 ≤ a) (a1 : a ≤ 9223372036854775807) (hb : b ≠ 0) (hb1 : b ≠ -1) (h : ¬ a.tmod b = 0)
    (hs : (a.tmod b != 0) = false ∨ (!decide (a.tmod b < 0) == decide (b < 0)) = false) : (wrap64 (a.tdiv b), (0 : Int)) = (quoS a b, 0) :=
  quo_stay a0 a1 hb hb1 (by rwa [decide_eq_decide.2 (tmod_neg_iff h)] at hs)

/-! Powers -/
def powS (a n : Int) : Int × Int := if n < 0 then (0, 1) else lim (a ^ n.toNat)
theorem okI_pow_pred {a : Int} {k : Nat} (h : okI (a ^ (k + 1)) = true) : okI (a ^ k) = true := by
  rw [okI_iff] at *
  by_cases h0 : a = 0
  · subst h0
    by_cases hk : k = 0
    · subst hk; simp
    · rw [Int.zero_pow hk]; omega
  by_cases h1 : a.natAbs = 1
  · have e : (a ^ k).natAbs = 1 := by rw [Int.natAbs_pow, h1, Nat.one_pow]
    omega
  · have e : (a ^ (k + 1)).natAbs = (a ^ k).natAbs * a.natAbs := by rw [Int.pow_succ, Int.natAbs_mul]
    have h2 : (a ^ k).natAbs * 2 ≤ (a ^ k).natAbs * a.natAbs := Nat.mul_le_mul_left _ (by omega)
    omega
theorem okI_pow_of_le {a : Int} {k n : Nat} (h : k ≤ n) (hn : okI (a ^ n) = true) : okI (a ^ k) = true := by
  induction n with
  | zero => obtain rfl : k = 0 := by omega
            exact hn
  | succ n ih =>
    by_cases e : k = n + 1
    · subst e; exact hn
    · exact ih (by omega) (okI_pow_pred hn)
theorem pow_fails {a : Int} {k n : Nat} (h : okI (a ^ (k + 1)) = false) (hk : k < n) : ((0 : Int), (3 : Int)) = lim (a ^ n) := by
  rw [lim_no]
  cases g : okI (a ^ n)
  · rfl
  · rw [okI_pow_of_le (by omega : k + 1 ≤ n) g] at h; cases h
/-- Among the numbers of size at most 1 a power depends on parity alone. -/
theorem pow_small {a : Int} (h : a.natAbs ≤ 1) (n : Nat) : a ^ n = a ^ (min n (2 - n % 2)) := by
  have two : ∀ m : Nat, 1 ≤ m → a ^ (m + 2) = a ^ m := by
    intro m hm
    have e : a = 0 ∨ a = 1 ∨ a = -1 := by omega
    rcases e with rfl | rfl | rfl
    · rw [Int.zero_pow (by omega), Int.zero_pow (by omega)]
    · rw [Int.one_pow, Int.one_pow]
    · rw [Int.pow_succ, Int.pow_succ]; simp
  have all : ∀ m : Nat, a ^ (2 * m + 1) = a ^ 1 ∧ a ^ (2 * m + 2) = a ^ 2 := by
    intro m
    induction m with
    | zero => exact ⟨rfl, rfl⟩
    | succ m ih =>
      refine ⟨?_, ?_⟩
      · rw [show 2 * (m + 1) + 1 = (2 * m + 1) + 2 by omega, two _ (by omega)]; exact ih.1
      · rw [show 2 * (m + 1) + 2 = (2 * m + 2) + 2 by omega, two _ (by omega)]; exact ih.2
  by_cases h0 : n = 0
  · subst h0; rfl
  by_cases hp : n % 2 = 1
  · have e : min n (2 - n % 2) = 1 := by omega
    rw [e]
    have := (all (n / 2)).1
    rwa [show 2 * (n / 2) + 1 = n by omega] at this
  · have e : min n (2 - n % 2) = 2 := by omega
    rw [e]
    have := (all ((n - 2) / 2)).2
    rwa [show 2 * ((n - 2) / 2) + 2 = n by omega] at this
theorem okI_one (a : Int) : okI (a ^ 0) = true := by rw [Int.pow_zero]; rfl
theorem pow_even {n : Int} (_h0 : 0 ≤ n) (h : n % 2 = 0) : (-1 : Int) ^ n.toNat = 1 := by
  rw [pow_small (a := -1) (by decide) n.toNat]
  by_cases e : n.toNat = 0
  · rw [e]; rfl
  · rw [show min n.toNat (2 - n.toNat % 2) = 2 by omega]; rfl
theorem pow_odd {n : Int} (h0 : 0 ≤ n) (h : ¬ n % 2 = 0) : (-1 : Int) ^ n.toNat = -1 := by
  rw [pow_small (a := -1) (by decide) n.toNat, show min n.toNat (2 - n.toNat % 2) = 1 by omega]; rfl

/-! Common divisors -/
def gcdS (a b : Int) : Int := if (Int.gcd a b : Int) ≤ 9223372036854775807 then (Int.gcd a b : Int) else 0
def lcmS (a b : Int) : Int × Int := if a = 0 ∨ b = 0 then (0, 0) else if a = -9223372036854775808 ∨ b = -9223372036854775808 then (0, 3) else lim ((a.natAbs / Int.gcd a b : Nat) * (b.natAbs : Int))
theorem gcd_endLe {p : Nat} {a b : Int} (h : Nat.gcd p 0 = Int.gcd a b) (hc : (p : Int) ≤ 9223372036854775807) : (p : Int) = gcdS a b := by
  unfold gcdS; rw [← h, Nat.gcd_zero_right, if_pos hc]
theorem gcd_endGt {p : Nat} {a b : Int} (h : Nat.gcd p 0 = Int.gcd a b) (hc : 9223372036854775807 < (p : Int)) : (0 : Int) = gcdS a b := by
  unfold gcdS; rw [← h, Nat.gcd_zero_right, if_neg (by omega)]
theorem gcd_step (p q : Nat) : Nat.gcd q (p % q) = Nat.gcd p q := by
  rw [Nat.gcd_comm p q, Nat.gcd_rec q p, Nat.gcd_comm]
theorem gcd_le_left {a b : Int} (ha : a ≠ 0) : Int.gcd a b ≤ a.natAbs := Nat.le_of_dvd (by omega) (Nat.gcd_dvd_left _ _)
theorem gcd_pos {a b : Int} (ha : a ≠ 0) : 1 ≤ Int.gcd a b := Nat.gcd_pos_of_pos_left _ (by omega)
theorem gcdS_eq {a b : Int} (ha : a ≠ 0) (a0 : -9223372036854775808 < a) (a1 : a ≤ 9223372036854775807) : gcdS a b = (Int.gcd a b : Int) := by
  have := gcd_le_left (b := b) ha
  unfold gcdS; rw [if_pos (by omega)]
theorem gcdS_pos {a b : Int} (ha : a ≠ 0) (a0 : -9223372036854775808 < a) (a1 : a ≤ 9223372036854775807) : 1 ≤ gcdS a b ∧ gcdS a b ≤ 9223372036854775807 := by
  have h1 := gcd_le_left (b := b) ha
  have h2 := gcd_pos (b := b) ha
  rw [gcdS_eq ha a0 a1]; omega
theorem quoP {a b : Int} (ha : a ≠ 0) (a0 : -9223372036854775808 < a) (a1 : a ≤ 9223372036854775807) :
    (a.natAbs : Int).tdiv (gcdS a b) = ((a.natAbs / Int.gcd a b : Nat) : Int) := by
  rw [gcdS_eq ha a0 a1, Int.tdiv_eq_ediv_of_nonneg (by omega)]; rfl
theorem quoN {a b : Int} (ha : a ≠ 0) (a0 : -9223372036854775808 < a) (a1 : a ≤ 9223372036854775807) :
    (-(a.natAbs : Int)).tdiv (gcdS a b) = -((a.natAbs / Int.gcd a b : Nat) : Int) := by
  rw [Int.neg_tdiv, quoP ha a0 a1]
theorem quo_le {a b : Int} (a0 : -9223372036854775808 < a) (a1 : a ≤ 9223372036854775807) : ((a.natAbs / Int.gcd a b : Nat) : Int) ≤ 9223372036854775807 := by
  have := Nat.div_le_self a.natAbs (Int.gcd a b)
  omega
end Go.Proofs.YtoigjeoncdfdmaaGreatDoor.NumM
