/-
  How a number of 128 bits is divided by one of 64, by halves of 32 bits. No program in sight.
-/
import Derived.Lib.BitFns
import Derived.Laws.MathBits
namespace Go.Proofs.YtjighmmfaedgbaaDoor.RatM

/-- The relation of the loop that lowers a guess of a digit: u is what is divided, y1 the divisor's upper half, q the digit. -/
def kRel (u y1 q q1 r : Nat) : Prop := u = q1 * y1 + r ∧ q ≤ q1 ∧ q1 ≤ 4294967297
theorem k_start {u y1 y0 y w : Nat} (hy : y = y1 * 4294967296 + y0) (h1 : 2147483648 ≤ y1) (h0 : y0 < 4294967296) (hu : u < y) (hw : w < 4294967296) :
    kRel u y1 ((u * 4294967296 + w) / y) (u / y1) (u - u / y1 * y1) ∧ u - u / y1 * y1 < y1 ∧ u / y1 * y1 ≤ u := by
  have hle : u / y1 * y1 ≤ u := Nat.div_mul_le_self u y1
  have hlt : u - u / y1 * y1 < y1 := by
    have := Nat.mod_lt u (show 0 < y1 by omega)
    have := Nat.div_add_mod u y1
    rw [Nat.mul_comm] at this
    omega
  refine ⟨⟨by omega, ?_, ?_⟩, hlt, hle⟩
  · have hp : 0 < y1 := by omega
    apply (Nat.le_div_iff_mul_le hp).2
    have h := Nat.div_mul_le_self (u * 4294967296 + w) y
    generalize (u * 4294967296 + w) / y = q at *
    rw [hy, Nat.mul_add, ← Nat.mul_assoc] at h
    generalize q * y1 = A at *
    generalize q * y0 = B at *
    clear hle hlt
    omega
  · have hp : 0 < y1 := by omega
    have : u / y1 < 4294967298 := by
      apply (Nat.div_lt_iff_lt_mul hp).2
      clear hle hlt
      omega
    omega
theorem k_digit {u y w : Nat} (hu : u < y) (hw : w < 4294967296) : (u * 4294967296 + w) / y < 4294967296 := by
  rw [Nat.div_lt_iff_lt_mul (by omega)]
  omega
/-- The guess is right: the test said no. -/
theorem k_exit {u y1 y0 y w q1 r : Nat} (hy : y = y1 * 4294967296 + y0) (hy0 : 0 < y) (h : kRel u y1 ((u * 4294967296 + w) / y) q1 r) (ht : q1 * y0 ≤ 4294967296 * r + w) : q1 = (u * 4294967296 + w) / y := by
  obtain ⟨e, hq, _⟩ := h
  apply Nat.le_antisymm _ hq
  rw [Nat.le_div_iff_mul_le hy0, hy, Nat.mul_add, ← Nat.mul_assoc]
  generalize q1 * y1 = A at *
  generalize q1 * y0 = B at *
  omega
/-- The guess is too great: the test said yes. -/
theorem k_step {u y1 y0 y w q1 r : Nat} (hy : y = y1 * 4294967296 + y0) (hy0 : 0 < y) (hu : u < y) (hw : w < 4294967296) (h : kRel u y1 ((u * 4294967296 + w) / y) q1 r) (ht : 4294967296 ≤ q1 ∨ 4294967296 * r + w < q1 * y0) :
    1 ≤ q1 ∧ kRel u y1 ((u * 4294967296 + w) / y) (q1 - 1) (r + y1) := by
  obtain ⟨e, hq, hm⟩ := h
  have hd := k_digit hu hw
  have key : (u * 4294967296 + w) / y < q1 := by
    rcases ht with ht | ht
    · omega
    · rw [Nat.div_lt_iff_lt_mul hy0, hy, Nat.mul_add, ← Nat.mul_assoc]
      generalize q1 * y1 = A at *
      generalize q1 * y0 = B at *
      omega
  generalize (u * 4294967296 + w) / y = q at *
  refine ⟨by omega, ?_, by omega, by omega⟩
  obtain ⟨p, rfl⟩ : ∃ p, q1 = p + 1 := ⟨q1 - 1, by omega⟩
  rw [Nat.add_sub_cancel]
  rw [Nat.add_mul] at e
  omega
/-- The guess is right: what is left has grown beyond 32 bits. -/
theorem k_break {u y1 y0 y w q1 r : Nat} (hy : y = y1 * 4294967296 + y0) (hy0 : 0 < y) (h0 : y0 < 4294967296) (h : kRel u y1 ((u * 4294967296 + w) / y) q1 r) (hq : q1 ≤ 4294967296) (hr : 4294967296 ≤ r) : q1 = (u * 4294967296 + w) / y := by
  apply k_exit hy hy0 h
  have : q1 * y0 ≤ 4294967296 * 4294967295 := Nat.mul_le_mul hq (by omega)
  omega
theorem k_rest {u y w q : Nat} (hq : q = (u * 4294967296 + w) / y) : u * 4294967296 + w - q * y = (u * 4294967296 + w) % y ∧ q * y ≤ u * 4294967296 + w := by
  subst hq
  have := Nat.div_add_mod (u * 4294967296 + w) y
  rw [Nat.mul_comm] at this
  omega
/-- The two digits, and what is left behind both. -/
theorem k_two {u y w1 w0 : Nat} (hy : 0 < y) :
    (u * 18446744073709551616 + (w1 * 4294967296 + w0)) / y = (u * 4294967296 + w1) / y * 4294967296 + ((u * 4294967296 + w1) % y * 4294967296 + w0) / y ∧
    (u * 18446744073709551616 + (w1 * 4294967296 + w0)) % y = ((u * 4294967296 + w1) % y * 4294967296 + w0) % y := by
  have e : u * 18446744073709551616 + (w1 * 4294967296 + w0) = ((u * 4294967296 + w1) % y * 4294967296 + w0) + y * ((u * 4294967296 + w1) / y * 4294967296) := by
    have := Nat.div_add_mod (u * 4294967296 + w1) y
    have e2 : y * ((u * 4294967296 + w1) / y * 4294967296) = (y * ((u * 4294967296 + w1) / y)) * 4294967296 := by rw [Nat.mul_assoc]
    omega
  rw [e, Nat.add_mul_div_left _ _ hy, Nat.add_mul_mod_self_left]
  exact ⟨by omega, rfl⟩
/-- Shifted: the same quotient, the remainder shifted. -/
theorem k_shift {X y s : Nat} : (X * 2 ^ s) / (y * 2 ^ s) = X / y ∧ (X * 2 ^ s) % (y * 2 ^ s) = X % y * 2 ^ s :=
  ⟨Nat.mul_div_mul_right _ _ (Nat.pow_pos (by omega)), Nat.mul_mod_mul_right _ _ _⟩
theorem bit_len (n : Nat) : ∀ x, x ≤ n → x < 2 ^ 64 → x < 2 ^ Lib.bitLen x ∧ (x ≠ 0 → 2 ^ Lib.bitLen x ≤ 2 * x) := by
  induction n using Nat.strongRecOn with
  | _ n ih =>
    intro x hx h64
    by_cases h0 : x = 0
    · subst h0
      refine ⟨Nat.pow_pos (by omega), fun h => absurd rfl h⟩
    · rw [Lib.bitLen_half x h0 h64, Nat.add_comm, Nat.pow_succ]
      obtain ⟨i1, i2⟩ := ih (x / 2) (by omega) (x / 2) (Nat.le_refl _) (by omega)
      by_cases h1 : x / 2 = 0
      · have e : Lib.bitLen 0 = 0 := rfl
        rw [h1, e]
        omega
      · have := i2 h1
        generalize 2 ^ Lib.bitLen (x / 2) = P at *
        omega
/-- How far a number is shifted: then it has 64 bits. -/
theorem k_norm {y : Nat} (h0 : 0 < y) (h1 : y < 18446744073709551616) :
    Lib.bitLen y ≤ 64 ∧ 1 ≤ Lib.bitLen y ∧ 9223372036854775808 ≤ y * 2 ^ (64 - Lib.bitLen y) ∧ y * 2 ^ (64 - Lib.bitLen y) < 18446744073709551616 := by
  obtain ⟨a, b⟩ := bit_len y y (Nat.le_refl _) h1
  have b := b (by omega)
  generalize Lib.bitLen y = L at *
  have hL : L ≤ 64 := by
    apply Nat.le_of_not_lt
    intro hlt
    have : 2 ^ 65 ≤ 2 ^ L := Nat.pow_le_pow_right (by omega) hlt
    omega
  have hL1 : 1 ≤ L := by
    apply Nat.le_of_not_lt
    intro hlt
    obtain rfl : L = 0 := by omega
    omega
  have e : 2 ^ L * 2 ^ (64 - L) = 18446744073709551616 := by rw [← Nat.pow_add, show L + (64 - L) = 64 by omega]
  have hp : 0 < 2 ^ (64 - L) := Nat.pow_pos (by omega)
  have c1 : y * 2 ^ (64 - L) < 2 ^ L * 2 ^ (64 - L) := Nat.mul_lt_mul_of_pos_right a hp
  have c2 : 2 ^ L * 2 ^ (64 - L) ≤ 2 * y * 2 ^ (64 - L) := Nat.mul_le_mul_right _ b
  rw [e] at c1 c2
  rw [Nat.mul_assoc] at c2
  exact ⟨hL, hL1, by omega, c1⟩
end Go.Proofs.YtjighmmfaedgbaaDoor.RatM
