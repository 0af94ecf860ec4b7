/-
  The arithmetic of 16-bit words, with no Go in sight: bits, their sum, their reverse order, masks, sums and products modulo 2^16.
-/
import Derived.Lib.Tables
import Derived.Laws.BitsAllLaws
namespace Go.Proofs.YtlnomiiphlbamaaGreatDoor.WordM
open Go

/-- Bit i of x. -/
def bitN (x i : Nat) : Nat := x / 2 ^ i % 2
/-- How many of the lowest n bits of x are 1. -/
def sumN : Nat → Nat → Nat
  | 0, _ => 0
  | n + 1, x => sumN n x + bitN x n
/-- The lowest n bits of x in reverse order. -/
def revN : Nat → Nat → Nat
  | 0, _ => 0
  | n + 1, x => 2 * revN n x + bitN x n

theorem bitN_le (x i : Nat) : bitN x i ≤ 1 := by unfold bitN; omega
theorem bitN_test (x i : Nat) : bitN x i = (x.testBit i).toNat := by unfold bitN; rw [Nat.toNat_testBit]
theorem bitN_zero (x : Nat) : bitN x 0 = x % 2 := by unfold bitN; simp
theorem bitN_succ (x i : Nat) : bitN x (i + 1) = bitN (x / 2) i := by
  unfold bitN
  rw [Nat.pow_succ, Nat.mul_comm, Nat.div_div_eq_div_mul]
theorem bitN_shift (x k i : Nat) : bitN (x / 2 ^ k) i = bitN x (k + i) := by
  unfold bitN
  rw [Nat.div_div_eq_div_mul, Nat.pow_add]
theorem bitN_mod (x n i : Nat) : bitN (x % 2 ^ n) i = if i < n then bitN x i else 0 := by
  rw [bitN_test, bitN_test, Nat.testBit_mod_two_pow]
  split <;> rename_i h <;> simp [h]
theorem bitN_inv (x i : Nat) (h : x < 65536) (hi : i < 16) : bitN (65535 - x) i = 1 - bitN x i := by
  have e : 65535 - x = 2 ^ 16 - (x + 1) := by omega
  rw [bitN_test, bitN_test, e, Nat.testBit_two_pow_sub_succ (by omega)]
  cases x.testBit i <;> simp [hi]
theorem sumN_le (n x : Nat) : sumN n x ≤ n := by
  induction n with
  | zero => simp [sumN]
  | succ n ih => have := bitN_le x n; simp only [sumN]; omega
theorem sumN_inv (n x : Nat) (h : x < 65536) (hn : n ≤ 16) : sumN n (65535 - x) + sumN n x = n := by
  induction n with
  | zero => simp [sumN]
  | succ n ih =>
    have := bitN_le x n
    have := ih (by omega)
    simp only [sumN, bitN_inv x n h (by omega)]
    omega
theorem sumN_add (n m x : Nat) : sumN (n + m) x = sumN n x + sumN m (x / 2 ^ n) := by
  induction m with
  | zero => simp [sumN]
  | succ m ih => rw [← Nat.add_assoc]; simp only [sumN, ih, bitN_shift]; omega
theorem sumN_congr (n x y : Nat) (h : ∀ i, i < n → bitN x i = bitN y i) : sumN n x = sumN n y := by
  induction n with
  | zero => rfl
  | succ n ih => simp only [sumN]; rw [ih (fun i hi => h i (by omega)), h n (by omega)]
theorem sumN_mod (n k x : Nat) (hk : k ≤ n) : sumN n (x % 2 ^ k) = sumN k x := by
  obtain ⟨m, rfl⟩ : ∃ m, n = k + m := ⟨n - k, by omega⟩
  rw [sumN_add]
  have e : x % 2 ^ k / 2 ^ k = 0 := Nat.div_eq_of_lt (Nat.mod_lt _ (Nat.two_pow_pos k))
  have z : ∀ m, sumN m 0 = 0 := by
    intro m
    induction m with
    | zero => rfl
    | succ m ih => simp [sumN, ih, bitN]
  rw [e, z, Nat.add_zero]
  exact sumN_congr _ _ _ fun i hi => by rw [bitN_mod, if_pos hi]
theorem revN_congr (n x y : Nat) (h : ∀ i, i < n → bitN x i = bitN y i) : revN n x = revN n y := by
  induction n with
  | zero => rfl
  | succ n ih => simp only [revN]; rw [ih (fun i hi => h i (by omega)), h n (by omega)]
theorem revN_add (n m x : Nat) : revN (n + m) x = 2 ^ m * revN n x + revN m (x / 2 ^ n) := by
  induction m with
  | zero => simp [revN]
  | succ m ih =>
    rw [← Nat.add_assoc]
    simp only [revN, ih, bitN_shift, Nat.pow_succ]
    grind
theorem revN_lt (n x : Nat) : revN n x < 2 ^ n := by
  induction n with
  | zero => simp [revN]
  | succ n ih => have := bitN_le x n; simp only [revN, Nat.pow_succ]; omega
theorem revN_lt16 (n x : Nat) (h : n ≤ 16) : revN n x < 65536 :=
  Nat.lt_of_lt_of_le (revN_lt n x) (Nat.pow_le_pow_right (by omega) h : 2 ^ n ≤ 2 ^ 16)
theorem revN_right (n x : Nat) (h : n ≤ 16) : revN 16 x / 2 ^ (16 - n) = revN n x := by
  have e : revN 16 x = 2 ^ (16 - n) * revN n x + revN (16 - n) (x / 2 ^ n) := by rw [← revN_add]; congr 1; omega
  rw [e, Nat.mul_add_div (Nat.two_pow_pos _), Nat.div_eq_of_lt (revN_lt _ _)]
  rfl
theorem bitN_rev (n x : Nat) : ∀ i, bitN (revN n x) i = if i < n then bitN x (n - 1 - i) else 0 := by
  induction n with
  | zero => intro i; simp [revN, bitN]
  | succ n ih =>
    intro i
    have hb := bitN_le x n
    cases i with
    | zero => rw [bitN_zero, if_pos (by omega)]; simp only [revN, Nat.add_sub_cancel, Nat.sub_zero]; omega
    | succ i =>
      rw [bitN_succ]
      have e : revN (n + 1) x / 2 = revN n x := by simp only [revN]; omega
      rw [e, ih i]
      by_cases h : i < n
      · rw [if_pos h, if_pos (by omega)]; congr 1; omega
      · rw [if_neg h, if_neg (by omega)]
theorem sumN_rev (n x : Nat) : ∀ m, n ≤ m → sumN m (revN n x) = sumN n x := by
  have shift : ∀ m y, sumN (m + 1) y = y % 2 + sumN m (y / 2) := by
    intro m y
    rw [Nat.add_comm m 1, sumN_add]
    simp [sumN, bitN]
  induction n with
  | zero =>
    intro m _
    have := sumN_mod m 0 0 (by omega)
    simpa [revN, sumN] using this
  | succ n ih =>
    intro m hm
    obtain ⟨k, rfl⟩ : ∃ k, m = k + 1 := ⟨m - 1, by omega⟩
    have hb := bitN_le x n
    rw [shift]
    have e : revN (n + 1) x / 2 = revN n x := by simp only [revN]; omega
    have e2 : revN (n + 1) x % 2 = bitN x n := by simp only [revN]; omega
    rw [e, e2, ih k (by omega)]
    simp only [sumN]
    omega
theorem eq_of_bitN (x y : Nat) (h : ∀ i, bitN x i = bitN y i) : x = y := by
  refine Nat.eq_of_testBit_eq fun i => ?_
  have := h i
  rw [bitN_test, bitN_test] at this
  revert this
  cases x.testBit i <;> cases y.testBit i <;> simp
theorem rev_rev (n x : Nat) : revN n (revN n x) = x % 2 ^ n := by
  refine eq_of_bitN _ _ fun i => ?_
  rw [bitN_rev, bitN_mod]
  by_cases h : i < n
  · rw [if_pos h, if_pos h, bitN_rev, if_pos (by omega)]
    congr 1; omega
  · rw [if_neg h, if_neg h]

/-! ### the tables of math/bits -/
theorem pop8_eq (b : Nat) (h : b < 256) : Lib.pop8 (b : Int) = (sumN 8 b : Int) := by
  have all : ∀ n : Fin 256, Lib.pop8 (n.val : Int) = (sumN 8 n.val : Int) := by decide +kernel
  exact all ⟨b, h⟩
theorem rev8_eq (b : Nat) (h : b < 256) : Lib.rev8 (b : Int) = (revN 8 b : Int) := by
  have all : ∀ n : Fin 256, Lib.rev8 (n.val : Int) = (revN 8 n.val : Int) := by decide +kernel
  exact all ⟨b, h⟩
theorem ones16 (x : Nat) (_h : x < 65536) : sumN 8 (x / 256) + sumN 8 (x % 256) = sumN 16 x := by
  have e := sumN_add 8 8 x
  have e2 : sumN 8 (x % 256) = sumN 8 x := sumN_mod 8 8 x (by omega)
  have e3 : x / 2 ^ 8 = x / 256 := by simp
  rw [e3] at e
  rw [e2]; simp only [show 8 + 8 = 16 from rfl] at e; omega
theorem rev16 (x : Nat) (_h : x < 65536) : revN 8 (x / 256) + revN 8 (x % 256) * 256 = revN 16 x := by
  have e := revN_add 8 8 x
  have e2 : revN 8 (x % 256) = revN 8 x := revN_congr _ _ _ fun i hi => by have := bitN_mod x 8 i; rw [if_pos hi] at this; exact this
  have e3 : x / 2 ^ 8 = x / 256 := by simp
  rw [e3] at e
  rw [e2]; simp only [show 8 + 8 = 16 from rfl] at e; omega

/-! ### words -/
/-- The word of a number, as a natural number. -/
def wordN (a : Int) : Nat := (a % 65536).toNat
theorem wordN_int (a : Int) : (wordN a : Int) = a % 65536 := by unfold wordN; omega
theorem wordN_lt (a : Int) : wordN a < 65536 := by unfold wordN; omega
theorem tmod_pos (n : Int) (h : ¬ n.tmod 65536 < 0) : n.tmod 65536 = n % 65536 := by
  rw [Int.tmod_eq_emod] at *
  split at h <;> rename_i hc
  · rw [if_pos hc]; omega
  · have : ((65536 : Int).natAbs : Int) = 65536 := rfl
    omega
theorem tmod_neg (n : Int) (h : n.tmod 65536 < 0) : n.tmod 65536 + 65536 = n % 65536 := by
  rw [Int.tmod_eq_emod] at *
  split at h <;> rename_i hc
  · omega
  · rw [if_neg hc]
    have : ((65536 : Int).natAbs : Int) = 65536 := rfl
    omega
theorem tmod_range (n : Int) : -65536 < n.tmod 65536 ∧ n.tmod 65536 < 65536 :=
  ⟨by have := Int.lt_tmod_of_pos n (show (0 : Int) < 65536 by omega); omega, Int.tmod_lt_of_pos n (by omega)⟩

theorem mulmod (a b : Int) : (a % 65536) * (b % 65536) % 65536 = a * b % 65536 := (Int.mul_emod a b 65536).symm
theorem mulmod_l (a b : Int) : (a % 65536) * b % 65536 = a * b % 65536 := by
  rw [Int.mul_emod, Int.emod_emod_of_dvd _ (Int.dvd_refl _), ← Int.mul_emod]
theorem mulmod_r (a b : Int) : a * (b % 65536) % 65536 = a * b % 65536 := by
  rw [Int.mul_emod, Int.emod_emod_of_dvd _ (Int.dvd_refl _), ← Int.mul_emod]

theorem pow_bounds (n : Nat) (h : n ≤ 16) : 1 ≤ (2 : Int) ^ n ∧ (2 : Int) ^ n ≤ 65536 := by
  have a : 1 ≤ 2 ^ n := Nat.one_le_two_pow
  have b : 2 ^ n ≤ 2 ^ 16 := Nat.pow_le_pow_right (by omega) h
  have e : ((2 ^ n : Nat) : Int) = (2 : Int) ^ n := by simp
  rw [← e]
  omega
theorem powNat (n : Nat) : (2 : Int) ^ n = ((2 ^ n : Nat) : Int) := by simp
theorem divNat (x : Int) (n : Nat) (h : 0 ≤ x) : x / 2 ^ n = ((x.toNat / 2 ^ n : Nat) : Int) := by
  obtain ⟨X, rfl⟩ := Int.eq_ofNat_of_zero_le h
  simp
theorem div_bounds (x : Int) (n : Nat) (h0 : 0 ≤ x) (h1 : x < 65536) : 0 ≤ x / 2 ^ n ∧ x / 2 ^ n < 65536 := by
  rw [divNat x n h0]
  have := Nat.div_le_self x.toNat (2 ^ n)
  generalize x.toNat / 2 ^ n = q at *
  omega
/-- (x * 2^n mod 2^16) / 2^n: the lowest 16 - n bits. -/
theorem shl_shr (x n : Nat) (h : n ≤ 16) : x * 2 ^ n % 65536 / 2 ^ n = x % 2 ^ (16 - n) := by
  have e : 65536 = 2 ^ n * 2 ^ (16 - n) := by rw [← Nat.pow_add]; simp [show n + (16 - n) = 16 by omega]
  rw [e, Nat.mul_comm x, Nat.mul_mod_mul_left, Nat.mul_div_cancel_left _ (Nat.two_pow_pos n)]
theorem and_mask (x n : Nat) : x &&& (2 ^ n - 1) = x % 2 ^ n := Nat.and_two_pow_sub_one_eq_mod x n
theorem and_one (x : Nat) : x &&& 1 = x % 2 := Nat.and_one_is_mod x
theorem and_255 (x : Nat) : x &&& 255 = x % 256 := Nat.and_two_pow_sub_one_eq_mod x 8
theorem and_all (x : Nat) (h : x < 65536) : 65535 &&& x = x := by
  rw [Nat.and_comm]; have := Nat.and_two_pow_sub_one_eq_mod x 16; simp only [show (2 : Nat) ^ 16 - 1 = 65535 from rfl] at this; rw [this]; omega
theorem xor_all (x : Nat) (h : x < 65536) : 65535 ^^^ x = 65535 - x := by
  have e : 65535 - x = 2 ^ 16 - (x + 1) := by omega
  refine Nat.eq_of_testBit_eq fun i => ?_
  rw [e, Nat.testBit_two_pow_sub_succ (by omega), Nat.testBit_xor, show (65535 : Nat) = 2 ^ 16 - 1 from rfl, Nat.testBit_two_pow_sub_one]
  by_cases hi : i < 16
  · simp [hi]
  · have hx : x.testBit i = false := Nat.testBit_lt_two_pow (Nat.lt_of_lt_of_le h (Nat.pow_le_pow_right (by omega) (by omega) : 2 ^ 16 ≤ 2 ^ i))
    simp [hi, hx]
theorem or_add (x y : Nat) (h : y < 256) : y ||| (x * 256) = y + x * 256 := by
  have := Nat.two_pow_add_eq_or_of_lt (i := 8) (b := y) (by simpa using h) x
  rw [Nat.or_comm, Nat.mul_comm, show (256 : Nat) = 2 ^ 8 from rfl, ← this]
  omega
end Go.Proofs.YtlnomiiphlbamaaGreatDoor.WordM
