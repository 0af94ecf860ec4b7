/-
  The arithmetic of package hash, with no Go in sight: FNV-1a, the finalizer and how it is undone, CRC-32 and one changed byte, hexadecimal forms.
-/
namespace Go.Proofs.Ytahjgepjhihhjaa.HashM

/-! ### FNV-1a -/
def hstep (h : UInt64) (c : UInt8) : UInt64 := (h ^^^ c.toUInt64) * 0x100000001b3
def hashL (l : List UInt8) : UInt64 := l.foldl hstep 0xcbf29ce484222325
theorem hashL_snoc (l : List UInt8) (c : UInt8) : hashL (l ++ [c]) = hstep (hashL l) c := by
  unfold hashL; rw [List.foldl_append]; rfl

/-! ### The finalizer -/
def sh (x n : UInt64) : UInt64 := x ^^^ (x >>> n)
def fin (x : UInt64) : UInt64 := sh (sh (sh x 30 * 0xbf58476d1ce4e5b9) 27 * 0x94d049bb133111eb) 31
def mix (a b : UInt64) : UInt64 := fin (a + 0x9e3779b97f4a7c15 * (b + 1))
/-- The rounds of 'unshift'. -/
def ust (y n : UInt64) : Nat → UInt64
  | 0 => y
  | k + 1 => y ^^^ (ust y n k >>> n)
theorem ust_sh (x n : UInt64) (h1 : n.toNat < 64) (h2 : 64 ≤ 3 * n.toNat) : ust (sh x n) n 2 = x := by
  apply UInt64.toNat_inj.1
  simp only [ust, sh, UInt64.toNat_xor, UInt64.toNat_shiftRight, Nat.mod_eq_of_lt h1, Nat.shiftRight_xor_distrib, ← Nat.shiftRight_add]
  have z : x.toNat >>> (n.toNat + n.toNat + n.toNat) = 0 := by
    rw [Nat.shiftRight_eq_div_pow]
    exact Nat.div_eq_of_lt (Nat.lt_of_lt_of_le (UInt64.toNat_lt x) (Nat.pow_le_pow_right (by omega) (by omega)))
  have e : n.toNat + (n.toNat + n.toNat) = n.toNat + n.toNat + n.toNat := by omega
  generalize x.toNat >>> n.toNat = a at *
  generalize x.toNat >>> (n.toNat + n.toNat) = b at *
  try rw [e]
  rw [z]
  generalize x.toNat = c at *
  apply Nat.eq_of_testBit_eq
  intro i
  simp only [Nat.testBit_xor, Nat.zero_testBit]
  cases c.testBit i <;> cases a.testBit i <;> cases b.testBit i <;> rfl
def nstep (a x : UInt64) : UInt64 := x * (2 - a * x)
/-- The rounds of 'inverse'. -/
def nst (a : UInt64) : Nat → UInt64
  | 0 => a
  | k + 1 => nstep a (nst a k)
theorem inv1 : (0xbf58476d1ce4e5b9 : UInt64) * nst 0xbf58476d1ce4e5b9 6 = 1 := by decide +kernel
theorem inv2 : (0x94d049bb133111eb : UInt64) * nst 0x94d049bb133111eb 6 = 1 := by decide +kernel
theorem inv3 : (0x9e3779b97f4a7c15 : UInt64) * nst 0x9e3779b97f4a7c15 6 = 1 := by decide +kernel
def undo (y : UInt64) : UInt64 := ust (ust (ust y 31 2 * nst 0x94d049bb133111eb 6) 27 2 * nst 0xbf58476d1ce4e5b9 6) 30 2
theorem undo_fin (x : UInt64) : undo (fin x) = x := by
  unfold undo fin
  rw [ust_sh _ 31 (by decide) (by decide), UInt64.mul_assoc, inv2, UInt64.mul_one, ust_sh _ 27 (by decide) (by decide), UInt64.mul_assoc, inv1, UInt64.mul_one, ust_sh _ 30 (by decide) (by decide)]
theorem undo_a (a b : UInt64) : undo (mix a b) - 0x9e3779b97f4a7c15 * (b + 1) = a := by
  unfold mix; rw [undo_fin]; exact UInt64.add_sub_cancel _ _
theorem undo_b (a b : UInt64) : (undo (mix a b) - a) * nst 0x9e3779b97f4a7c15 6 - 1 = b := by
  unfold mix
  rw [undo_fin, UInt64.add_comm a, UInt64.add_sub_cancel, UInt64.mul_comm 0x9e3779b97f4a7c15, UInt64.mul_assoc, inv3, UInt64.mul_one]
  exact UInt64.add_sub_cancel _ _

/-! ### CRC-32 -/
def bstep (c : UInt32) : UInt32 := if c % 2 = 1 then c >>> 1 ^^^ 0xedb88320 else c >>> 1
def bst (c : UInt32) : Nat → UInt32
  | 0 => c
  | k + 1 => bstep (bst c k)
def cstep (c : UInt32) (b : UInt8) : UInt32 := bst (c ^^^ b.toUInt32) 8
def crcR (l : List UInt8) : UInt32 := l.foldl cstep 0xffffffff
def crcL (l : List UInt8) : UInt32 := crcR l ^^^ 0xffffffff
theorem crcR_snoc (l : List UInt8) (c : UInt8) : crcR (l ++ [c]) = cstep (crcR l) c := by
  unfold crcR; rw [List.foldl_append]; rfl
theorem top_of (c : UInt32) : (c >>> 1).toNat < 2147483648 := by
  rw [UInt32.toNat_shiftRight, show (1 : UInt32).toNat % 32 = 1 from rfl, Nat.shiftRight_eq_div_pow]
  have := UInt32.toNat_lt c
  omega
theorem xor_top (n : Nat) (h : n < 2147483648) : 2147483648 ≤ n ^^^ 3988292384 := by
  have t : (n ^^^ 3988292384).testBit 31 = true := by
    rw [Nat.testBit_xor, Nat.testBit_lt_two_pow (show n < 2 ^ 31 from h)]
    decide
  exact Nat.ge_two_pow_of_testBit t
theorem bstep_odd {c : UInt32} (h : c % 2 = 1) : 2147483648 ≤ (bstep c).toNat := by
  unfold bstep
  rw [if_pos h, UInt32.toNat_xor]
  exact xor_top _ (top_of c)
theorem bstep_even {c : UInt32} (h : ¬ c % 2 = 1) : (bstep c).toNat < 2147483648 := by
  unfold bstep
  rw [if_neg h]
  exact top_of c
theorem half (c : UInt32) : c.toNat = 2 * (c >>> 1).toNat + (c % 2).toNat := by
  rw [UInt32.toNat_shiftRight, show (1 : UInt32).toNat % 32 = 1 from rfl, Nat.shiftRight_eq_div_pow, UInt32.toNat_mod]
  show c.toNat = 2 * (c.toNat / 2 ^ 1) + c.toNat % 2
  omega
theorem odd_or (c : UInt32) : ¬ c % 2 = 1 → c % 2 = 0 := by
  intro h
  apply UInt32.toNat_inj.1
  have e : (c % 2).toNat = c.toNat % 2 := UInt32.toNat_mod c 2
  have n : (c % 2).toNat ≠ 1 := fun x => h (UInt32.toNat_inj.1 x)
  have : (c % 2).toNat < 2 := by rw [e]; omega
  show (c % 2).toNat = 0
  omega
theorem bstep_inj {c d : UInt32} (h : bstep c = bstep d) : c = d := by
  apply UInt32.toNat_inj.1
  rw [half c, half d]
  by_cases hc : c % 2 = 1 <;> by_cases hd : d % 2 = 1
  · unfold bstep at h
    rw [if_pos hc, if_pos hd] at h
    rw [(UInt32.xor_left_inj _).1 h, hc, hd]
  · have := bstep_odd hc; have := bstep_even hd; rw [h] at *; omega
  · have := bstep_even hc; have := bstep_odd hd; rw [h] at *; omega
  · unfold bstep at h
    rw [if_neg hc, if_neg hd] at h
    rw [h, odd_or c hc, odd_or d hd]
theorem bst_inj {c d : UInt32} : ∀ k, bst c k = bst d k → c = d
  | 0, h => h
  | k + 1, h => bst_inj k (bstep_inj h)
theorem cstep_inj {c d : UInt32} {b : UInt8} (h : cstep c b = cstep d b) : c = d := by
  unfold cstep at h
  have h2 := bst_inj 8 h
  exact (UInt32.xor_left_inj _).1 h2
theorem cstep_ne {c : UInt32} {a b : UInt8} (h : cstep c a = cstep c b) : a = b := by
  unfold cstep at h
  have h1 := bst_inj 8 h
  have h2 := (UInt32.xor_right_inj _).1 h1
  have h3 := congrArg UInt32.toNat h2
  rw [UInt8.toNat_toUInt32, UInt8.toNat_toUInt32] at h3
  exact UInt8.toNat_inj.1 h3
theorem fold_inj {c d : UInt32} : ∀ (l : List UInt8), l.foldl cstep c = l.foldl cstep d → c = d := by
  intro l
  induction l generalizing c d with
  | nil => exact id
  | cons a t ih => intro h; exact cstep_inj (ih h)
/-- One changed byte changes the checksum. -/
theorem crc_change {p q : List UInt8} {a b : UInt8} (h : crcL (p ++ a :: q) = crcL (p ++ b :: q)) : a = b := by
  unfold crcL at h
  have h2 := (UInt32.xor_left_inj _).1 h
  unfold crcR at h2
  rw [List.foldl_append, List.foldl_append, List.foldl_cons, List.foldl_cons] at h2
  exact cstep_ne (fold_inj q h2)

/-! ### Hexadecimal forms -/
/-- The digit of a number below 16. -/
def dg (k : Nat) : UInt8 := if k < 10 then UInt8.ofNat (48 + k) else UInt8.ofNat (87 + k)
def isH (c : UInt8) : Bool := (decide (48 ≤ c.toNat) && decide (c.toNat ≤ 57)) || (decide (97 ≤ c.toNat) && decide (c.toNat ≤ 102))
def hv (c : UInt8) : Nat := if c.toNat ≤ 57 then c.toNat - 48 else c.toNat - 87
def okH (l : List UInt8) : Bool := l.all isH
def vl (l : List UInt8) : Nat := l.foldl (fun a c => 16 * a + hv c) 0
/-- The last n digits of x. -/
def sfx (x : Nat) : Nat → List UInt8
  | 0 => []
  | n + 1 => dg (x / 16 ^ n % 16) :: sfx x n
theorem dg_all : ∀ n : Fin 16, isH (dg n.val) = true ∧ hv (dg n.val) = n.val := by decide +kernel
theorem dg_ok {k : Nat} (h : k < 16) : isH (dg k) = true := (dg_all ⟨k, h⟩).1
theorem hv_dg {k : Nat} (h : k < 16) : hv (dg k) = k := (dg_all ⟨k, h⟩).2
theorem hv_all : ∀ n : Fin 256, isH (UInt8.ofNat n.val) = true → hv (UInt8.ofNat n.val) < 16 ∧ dg (hv (UInt8.ofNat n.val)) = UInt8.ofNat n.val := by decide +kernel
theorem hv_ok {c : UInt8} (h : isH c = true) : hv c < 16 ∧ dg (hv c) = c := by
  have := hv_all ⟨c.toNat, UInt8.toNat_lt c⟩
  simp only [UInt8.ofNat_toNat] at this
  exact this h
theorem vl_fold (l : List UInt8) : ∀ a, l.foldl (fun a c => 16 * a + hv c) a = a * 16 ^ l.length + vl l := by
  unfold vl
  induction l with
  | nil => intro a; simp
  | cons c t ih =>
    intro a
    rw [List.foldl_cons, List.foldl_cons, ih, ih (16 * 0 + hv c), List.length_cons, Nat.pow_succ]
    have e : (16 * a + hv c) * 16 ^ t.length = a * (16 ^ t.length * 16) + (16 * 0 + hv c) * 16 ^ t.length := by
      rw [Nat.add_mul, Nat.mul_zero, Nat.zero_add]
      have : 16 * a * 16 ^ t.length = a * (16 ^ t.length * 16) := by rw [Nat.mul_comm 16 a, Nat.mul_assoc, Nat.mul_comm 16]
      omega
    omega
theorem vl_nil : vl [] = 0 := rfl
theorem vl_cons (c : UInt8) (t : List UInt8) : vl (c :: t) = hv c * 16 ^ t.length + vl t := by
  have := vl_fold t (16 * 0 + hv c)
  rw [Nat.mul_zero, Nat.zero_add] at this
  rw [← this]
  simp [vl]
theorem vl_snoc (l : List UInt8) (c : UInt8) : vl (l ++ [c]) = 16 * vl l + hv c := by
  unfold vl; rw [List.foldl_append]; rfl
theorem okH_nil : okH [] = true := rfl
theorem okH_cons (c : UInt8) (t : List UInt8) : okH (c :: t) = (isH c && okH t) := rfl
theorem okH_append (l m : List UInt8) : okH (l ++ m) = (okH l && okH m) := List.all_append
theorem vl_lt : ∀ (l : List UInt8), okH l = true → vl l < 16 ^ l.length := by
  intro l
  induction l with
  | nil => intro _; rw [vl_nil]; simp
  | cons c t ih =>
    intro h
    rw [okH_cons, Bool.and_eq_true] at h
    have h1 := (hv_ok h.1).1
    have h2 := ih h.2
    rw [vl_cons, List.length_cons, Nat.pow_succ]
    have h3 : hv c * 16 ^ t.length ≤ 15 * 16 ^ t.length := Nat.mul_le_mul_right _ (by omega)
    omega
theorem sfx_len (x n : Nat) : (sfx x n).length = n := by
  induction n with
  | zero => rfl
  | succ n ih => rw [sfx, List.length_cons, ih]
theorem sfx_ok (x n : Nat) : okH (sfx x n) = true := by
  induction n with
  | zero => rfl
  | succ n ih => rw [sfx, okH_cons, ih, dg_ok (Nat.mod_lt _ (by omega))]; rfl
theorem vl_sfx (x n : Nat) : vl (sfx x n) = x % 16 ^ n := by
  induction n with
  | zero => rw [sfx, vl_nil, Nat.pow_zero, Nat.mod_one]
  | succ n ih =>
    rw [sfx, vl_cons, sfx_len, ih, hv_dg (Nat.mod_lt _ (by omega)), Nat.mod_pow_succ, Nat.mul_comm, Nat.add_comm]
theorem sfx_mod (x y n : Nat) (h : x % 16 ^ n = y % 16 ^ n) : sfx x n = sfx y n := by
  induction n with
  | zero => rfl
  | succ n ih =>
    have e := Nat.mod_pow_succ (x := x) (b := 16) (k := n)
    have f := Nat.mod_pow_succ (x := y) (b := 16) (k := n)
    have hx : x % 16 ^ n = y % 16 ^ n := by
      have a := congrArg (· % 16 ^ n) h
      simp only [Nat.pow_succ, Nat.mod_mul_right_mod] at a
      exact a
    have hp : 0 < 16 ^ n := Nat.pow_pos (by omega)
    rw [e, f, hx] at h
    have hd : x / 16 ^ n % 16 = y / 16 ^ n % 16 := Nat.eq_of_mul_eq_mul_left hp (by omega)
    rw [sfx, sfx, hd, ih hx]
theorem sfx_vl : ∀ (l : List UInt8), okH l = true → sfx (vl l) l.length = l := by
  intro l
  induction l with
  | nil => intro _; rfl
  | cons c t ih =>
    intro h
    rw [okH_cons, Bool.and_eq_true] at h
    have h1 := hv_ok h.1
    have h2 := vl_lt t h.2
    have hp : 0 < 16 ^ t.length := Nat.pow_pos (by omega)
    rw [List.length_cons, sfx, vl_cons]
    have e1 : (hv c * 16 ^ t.length + vl t) / 16 ^ t.length = hv c := by
      rw [Nat.mul_comm, Nat.mul_add_div hp, Nat.div_eq_of_lt h2, Nat.add_zero]
    have e2 : (hv c * 16 ^ t.length + vl t) % 16 ^ t.length = vl t % 16 ^ t.length := by
      rw [Nat.mul_comm, Nat.mul_add_mod]
    rw [e1, Nat.mod_eq_of_lt h1.1, h1.2, sfx_mod _ _ _ e2, ih h.2]
end Go.Proofs.Ytahjgepjhihhjaa.HashM
