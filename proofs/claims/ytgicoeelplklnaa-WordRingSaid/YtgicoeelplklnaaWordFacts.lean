/-
  The laws of 16-bit words, with no Go in sight: wrapping, the ring, shifts as products, bits, masks and the reverse order.
-/
import Derived.Test.YtgicoeelplklnaaWordWalks
import Derived.Laws.Bits64
namespace Go.Proofs.Ytgicoeelplklnaa.WordW
open Go Go.RowKit Go.Proofs.Ytgicoeelplklnaa.WordM

def wrapS (a : Int) : Int := a % 65536
def addS (a b : Int) : Int := (a + b) % 65536
def subS (a b : Int) : Int := (a - b) % 65536
def mulS (a b : Int) : Int := a * b % 65536
def negS (a : Int) : Int := -a % 65536
def invS (a : Int) : Int := 65535 - a % 65536

theorem wrapS_lo (a : Int) : 0 ≤ wrapS a := by unfold wrapS; omega
theorem wrapS_hi (a : Int) : wrapS a ≤ 65535 := by unfold wrapS; omega
theorem wrapS_wrapS (a : Int) : wrapS (wrapS a) = wrapS a := by unfold wrapS; omega
theorem wrapS_less (a : Int) : wrapS (wrapS a - 65536) = wrapS a := by unfold wrapS; omega
theorem add_comm (a b : Int) : addS b a = addS a b := by unfold addS; omega
theorem add_assoc (a b c : Int) : addS a (addS b c) = addS (addS a b) c := by unfold addS; omega
theorem add_zero (a : Int) : addS a 0 = wrapS a := by unfold addS wrapS; omega
theorem add_neg (a : Int) : addS a (negS a) = 0 := by unfold addS negS; omega
theorem sub_add (a b : Int) : addS a (negS b) = subS a b := by unfold addS negS subS; omega
theorem neg_inv (a : Int) : addS (invS a) 1 = negS a := by unfold addS negS invS; omega
theorem mul_comm (a b : Int) : mulS b a = mulS a b := by unfold mulS; rw [Int.mul_comm]
theorem mul_assoc (a b c : Int) : mulS a (mulS b c) = mulS (mulS a b) c := by unfold mulS; rw [mulmod_l, mulmod_r, Int.mul_assoc]
theorem mul_one (a : Int) : mulS a 1 = wrapS a := by unfold mulS wrapS; omega
theorem mul_add (a b c : Int) : addS (mulS a b) (mulS a c) = mulS a (addS b c) := by
  unfold addS mulS
  rw [mulmod_r, Int.mul_add]
  omega

theorem i64_and_nat (a b : Nat) (ha : a < 65536) (hb : b < 65536) : bits .and .i64 (a : Int) (b : Int) = ((a &&& b : Nat) : Int) := by
  have hx : a &&& b < 2 ^ 16 := Nat.and_lt_two_pow _ (by omega)
  have e : ∀ n : Nat, n < 65536 → (BitVec.ofInt 64 (n : Int)).toNat = n := by
    intro n hn; rw [BitVec.ofInt_natCast, BitVec.toNat_ofNat]; omega
  show IntKind.i64.wrap ((BitVec.ofInt 64 (a : Int) &&& BitVec.ofInt 64 (b : Int)).toNat : Int) = _
  rw [BitVec.toNat_and, e a ha, e b hb]
  simp only [IntKind.wrap, IntKind.bits, IntKind.signed]
  generalize (a &&& b) = c at *
  simp
  omega
/-- The lowest n bits of the word of a. -/
theorem and_maskS (a n : Int) (h0 : 0 ≤ n) (h1 : n ≤ 16) : bits .and .i64 (wrapS a) (maskS n) = ((wordN a % 2 ^ n.toNat : Nat) : Int) := by
  have hb := pow_bounds n.toNat (by omega)
  unfold wrapS maskS
  rw [if_pos ⟨h0, h1⟩, ← wordN_int, powNat]
  rw [powNat] at hb
  have e : ((2 ^ n.toNat : Nat) : Int) - 1 = ((2 ^ n.toNat - 1 : Nat) : Int) := by omega
  rw [e, i64_and_nat _ _ (wordN_lt a) (by omega), and_mask]
theorem shl_mul (a n : Int) (h0 : 0 ≤ n) (h1 : n ≤ 15) : mulS a (2 ^ n.toNat) = shlS a n := by unfold mulS shlS; rw [if_pos ⟨h0, h1⟩]
theorem wordN_of (x : Nat) (h : x < 65536) : wordN (x : Int) = x := by unfold wordN; omega
theorem shr_shl (a n : Int) (h0 : 0 ≤ n) (h1 : n ≤ 15) : bits .and .i64 (wrapS a) (maskS (16 - n)) = shrS (shlS a n) n := by
  rw [and_maskS a (16 - n) (by omega) (by omega)]
  unfold shlS shrS
  rw [if_pos ⟨h0, h1⟩, if_pos ⟨h0, h1⟩]
  have e1 : (16 - n).toNat = 16 - n.toNat := by omega
  have e2 := shl_shr (wordN a) n.toNat (by omega)
  have e3 : a * 2 ^ n.toNat % 65536 = ((wordN a * 2 ^ n.toNat % 65536 : Nat) : Int) := by
    rw [← mulmod_l, powNat, show a % 65536 = (wordN a : Int) from (wordN_int a).symm, ← Int.natCast_mul]; omega
  rw [e1, e3, divNat _ _ (by omega), ← e2]
  have : wordN a * 2 ^ n.toNat % 65536 < 65536 := Nat.mod_lt _ (by omega)
  generalize wordN a * 2 ^ n.toNat % 65536 = y at *
  have e4 : (((y : Nat) : Int) % 65536).toNat = y := by omega
  rw [e4]
theorem shl_out (a n : Int) (h : ¬ (0 ≤ n ∧ n ≤ 15)) : shlS a n = 0 := by unfold shlS; rw [if_neg h]
theorem shr_out (a n : Int) (h : ¬ (0 ≤ n ∧ n ≤ 15)) : shrS a n = 0 := by unfold shrS; rw [if_neg h]
theorem ones_inv (a : Int) : onesS a + onesS (invS a) = 16 := by
  unfold onesS invS
  have h := sumN_inv 16 (wordN a) (wordN_lt a) (by omega)
  have e : wordN (65535 - a % 65536) = 65535 - wordN a := by unfold wordN; omega
  rw [e]; omega
theorem ones_lo (a : Int) : 0 ≤ onesS a := by unfold onesS; omega
theorem ones_hi (a : Int) : onesS a ≤ 16 := by unfold onesS; have := sumN_le 16 (wordN a); omega
theorem fits_low (a n : Int) (h0 : 1 ≤ n) (h1 : n ≤ 16) : fitsS (bits .and .i64 (wrapS a) (maskS n)) n = true := by
  rw [and_maskS a n (by omega) h1]
  unfold fitsS
  rw [if_pos ⟨h0, h1, by omega⟩]
  unfold maskS
  rw [if_pos ⟨by omega, h1⟩, powNat]
  have := Nat.mod_lt (wordN a) (Nat.two_pow_pos n.toNat)
  rw [decide_eq_true_eq]
  omega
theorem rev_out (a n : Int) (h : ¬ (1 ≤ n ∧ n ≤ 16)) : revS a n = 0 := by unfold revS; rw [if_neg h]
theorem rev_twice (a n : Int) (h0 : 1 ≤ n) (h1 : n ≤ 16) : bits .and .i64 (wrapS a) (maskS n) = revS (revS a n) n := by
  rw [and_maskS a n (by omega) h1]
  unfold revS
  rw [if_pos ⟨h0, h1⟩, if_pos ⟨h0, h1⟩, wordN_of _ (revN_lt16 _ _ (by omega)), rev_rev]
theorem ones_rev (a n : Int) (h0 : 1 ≤ n) (h1 : n ≤ 16) : onesS (revS (revS a n) n) = onesS (revS a n) := by
  rw [← rev_twice a n h0 h1, and_maskS a n (by omega) h1]
  unfold onesS revS
  rw [if_pos ⟨h0, h1⟩, wordN_of _ (revN_lt16 _ _ (by omega)), sumN_rev _ _ _ (by omega), wordN_of, sumN_mod _ _ _ (by omega)]
  exact Nat.lt_of_le_of_lt (Nat.mod_le _ _) (wordN_lt a)
theorem low_range (a n : Int) (h0 : 1 ≤ n) (h1 : n ≤ 16) : 0 ≤ bits .and .i64 (wrapS a) (maskS n) ∧ bits .and .i64 (wrapS a) (maskS n) ≤ 65535 := by
  rw [and_maskS a n (by omega) h1]
  have := Nat.mod_le (wordN a) (2 ^ n.toNat)
  have := wordN_lt a
  generalize wordN a % 2 ^ n.toNat = y at *
  omega
theorem revS_lo (a n : Int) : 0 ≤ revS a n := by unfold revS; split <;> omega
theorem revS_hi (a n : Int) : revS a n ≤ 65535 := by
  unfold revS
  split
  · have := revN_lt16 n.toNat (wordN a) (by omega); omega
  · omega
end Go.Proofs.Ytgicoeelplklnaa.WordW
