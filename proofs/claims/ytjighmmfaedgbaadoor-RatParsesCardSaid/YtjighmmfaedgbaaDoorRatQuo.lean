/-
  Plain facts about rational numbers of 64 bits: quotients in lowest terms, which fit, sums, products and their laws. No program in sight.
-/
namespace Go.Proofs.YtjighmmfaedgbaaDoor.RatM

def sg (neg : Bool) (p : Nat) : Int := if neg then -(p : Int) else p
def fitB (neg : Bool) (p q : Nat) : Bool := decide (p ≤ (if neg then 9223372036854775808 else 9223372036854775807) ∧ q ≤ 9223372036854775807)
/-- The number with these parts, if it fits: numerator, denominator, error. -/
def fit (neg : Bool) (p q : Nat) : Int × Int × Int := if fitB neg p q then (sg neg p, (q : Int), 0) else (0, 0, 3)
/-- The quotient in lowest terms. -/
def quo (neg : Bool) (a b : Nat) : Int × Int × Int := fit neg (a / a.gcd b) (b / a.gcd b)
/-- The quotient of an integer. -/
def zq (N : Int) (D : Nat) : Int × Int × Int := quo (decide (N < 0)) N.natAbs D

def i64 (x : Int) : Prop := -9223372036854775808 ≤ x ∧ x ≤ 9223372036854775807
def validS (n d : Int) : Bool := decide (1 ≤ d ∧ n.natAbs.gcd d.natAbs = 1)
def makeS (n d : Int) : Int × Int × Int := if d = 0 then (0, 0, 4) else quo (decide (n < 0) != decide (d < 0)) n.natAbs d.natAbs
def addS (a b c d : Int) : Int × Int × Int := if validS a b && validS c d then zq (a * d + c * b) (b * d).natAbs else (0, 0, 1)
def subS (a b c d : Int) : Int × Int × Int := if validS a b && validS c d then zq (a * d - c * b) (b * d).natAbs else (0, 0, 1)
def mulS (a b c d : Int) : Int × Int × Int := if validS a b && validS c d then zq (a * c) (b * d).natAbs else (0, 0, 1)
def divS (a b c d : Int) : Int × Int × Int :=
  if validS a b && validS c d then (if c = 0 then (0, 0, 4) else quo (decide (a < 0) != decide (c < 0)) (a.natAbs * d.natAbs) (b.natAbs * c.natAbs)) else (0, 0, 1)
def cmpS (a b c d : Int) : Int × Int := if validS a b && validS c d then (if a * d < c * b then (-1, 0) else if a * d = c * b then (0, 0) else (1, 0)) else (0, 1)

theorem valid_iff {n d : Int} : validS n d = true ↔ 1 ≤ d ∧ n.natAbs.gcd d.natAbs = 1 := by simp [validS]
theorem gcd_pos {a b : Nat} (h : 0 < b) : 0 < a.gcd b := Nat.gcd_pos_of_pos_right _ h
theorem quo_mul (neg : Bool) (a b c : Nat) (h : 0 < c) : quo neg (c * a) (c * b) = quo neg a b := by
  unfold quo
  rw [Nat.gcd_mul_left, Nat.mul_div_mul_left _ _ h, Nat.mul_div_mul_left _ _ h]
theorem quo_zero (neg : Bool) {b : Nat} (h : 0 < b) : quo neg 0 b = (0, 1, 0) := by
  unfold quo
  rw [Nat.gcd_zero_left, Nat.zero_div, Nat.div_self h]
  cases neg <;> rfl
theorem quo_zq (neg : Bool) (p : Nat) {b : Nat} (h : 0 < b) : quo neg p b = zq (sg neg p) b := by
  rcases Nat.eq_zero_or_pos p with rfl | hp
  · have : sg neg 0 = 0 := by cases neg <;> rfl
    rw [this, zq, quo_zero neg h]
    exact (quo_zero _ h).symm
  · unfold zq
    have e1 : decide (sg neg p < 0) = neg := by cases neg <;> simp [sg] <;> omega
    have e2 : (sg neg p).natAbs = p := by cases neg <;> simp [sg]
    rw [e1, e2]
theorem cop_div {a b : Nat} (h : 0 < b) : (a / a.gcd b).Coprime (b / a.gcd b) := Nat.coprime_div_gcd_div_gcd (gcd_pos h)

/-! ### What a quotient is -/
theorem eq_of_cross {p q p' q' : Nat} (h1 : p.gcd q = 1) (h2 : p'.gcd q' = 1) (hq : 0 < q) (hq' : 0 < q') (h : p * q' = p' * q) : p = p' ∧ q = q' := by
  have d1 : q ∣ q' := Nat.Coprime.dvd_of_dvd_mul_left (k := q) (m := p) (n := q') (Nat.Coprime.symm h1) ⟨p', by rw [h, Nat.mul_comm]⟩
  have d2 : q' ∣ q := Nat.Coprime.dvd_of_dvd_mul_left (k := q') (m := p') (n := q) (Nat.Coprime.symm h2) ⟨p, by rw [← h, Nat.mul_comm]⟩
  have e : q = q' := Nat.dvd_antisymm d1 d2
  subst e
  exact ⟨Nat.eq_of_mul_eq_mul_right hq h, rfl⟩
/-- In lowest terms nothing is left to divide. -/
theorem quo_low {neg : Bool} {a b : Nat} (h : a.gcd b = 1) : quo neg a b = fit neg a b := by unfold quo; rw [h, Nat.div_one, Nat.div_one]
/-- A quotient that equals one in lowest terms is that one. -/
theorem quo_cross {neg : Bool} {a b p q : Nat} (hb : 0 < b) (hq : 0 < q) (hpq : p.gcd q = 1) (h : a * q = p * b) : quo neg a b = fit neg p q := by
  have hg := gcd_pos (a := a) hb
  have ha : a / a.gcd b * a.gcd b = a := Nat.div_mul_cancel (Nat.gcd_dvd_left a b)
  have hb' : b / a.gcd b * a.gcd b = b := Nat.div_mul_cancel (Nat.gcd_dvd_right a b)
  have hc := cop_div (a := a) hb
  have hbp : 0 < b / a.gcd b := Nat.div_pos (Nat.le_of_dvd hb (Nat.gcd_dvd_right a b)) hg
  have e : a / a.gcd b * q = p * (b / a.gcd b) := by
    apply Nat.eq_of_mul_eq_mul_right hg
    rw [Nat.mul_right_comm, ha, Nat.mul_assoc, hb', h]
  obtain ⟨e1, e2⟩ := eq_of_cross hc hpq hbp hq e
  unfold quo
  rw [e1, e2]
theorem zq_ok {N : Int} {D : Nat} {n d : Int} (hD : 0 < D) (h : zq N D = (n, d, 0)) : n * D = N * d ∧ validS n d = true ∧ i64 n ∧ i64 d := by
  have hg := gcd_pos (a := N.natAbs) hD
  have ha : N.natAbs / N.natAbs.gcd D * N.natAbs.gcd D = N.natAbs := Nat.div_mul_cancel (Nat.gcd_dvd_left _ _)
  have hb' : D / N.natAbs.gcd D * N.natAbs.gcd D = D := Nat.div_mul_cancel (Nat.gcd_dvd_right _ _)
  have hc := cop_div (a := N.natAbs) hD
  have hbp : 0 < D / N.natAbs.gcd D := Nat.div_pos (Nat.le_of_dvd hD (Nat.gcd_dvd_right _ _)) hg
  unfold zq quo fit at h
  generalize N.natAbs.gcd D = g at *
  generalize hp : N.natAbs / g = p at *
  generalize hq : D / g = q at *
  by_cases hf : fitB (decide (N < 0)) p q = true
  · rw [if_pos hf] at h
    simp only [Prod.mk.injEq] at h
    obtain ⟨rfl, rfl, _⟩ := h
    have hN : N = sg (decide (N < 0)) N.natAbs := by
      unfold sg
      by_cases hn : N < 0 <;> simp [hn] <;> omega
    simp only [fitB, decide_eq_true_eq] at hf
    refine ⟨?_, ?_, ?_, ?_⟩
    · rw [← hb', hN, ← ha]
      rw [show (decide (sg (decide (N < 0)) (p * g) < 0)) = decide (N < 0) by rw [ha, ← hN]]
      unfold sg
      split <;> (push_cast; grind)
    · rw [valid_iff]
      have : (sg (decide (N < 0)) p).natAbs = p := by unfold sg; split <;> simp
      rw [this]
      exact ⟨by omega, by simpa using hc⟩
    · unfold i64 sg
      by_cases hs : N < 0
      · rw [if_pos hs] at hf; rw [if_pos (by simpa using hs)]; omega
      · rw [if_neg hs] at hf; rw [if_neg (by simpa using hs)]; omega
    · unfold i64; omega
  · rw [if_neg hf] at h
    simp at h
theorem zq_of {N : Int} {D : Nat} {n d : Int} (hD : 0 < D) (hv : validS n d = true) (hn : i64 n) (hd : i64 d) (h : n * D = N * d) : zq N D = (n, d, 0) := by
  rw [valid_iff] at hv
  obtain ⟨h1, h2⟩ := hv
  have hs : decide (N < 0) = decide (n < 0) := by
    have hDp : (0 : Int) < D := by omega
    rw [decide_eq_decide]
    constructor
    · intro g
      have : N * d < 0 := Int.mul_neg_of_neg_of_pos g (by omega)
      rw [← h] at this
      apply Int.not_le.1
      intro g2
      have := Int.mul_nonneg g2 (Int.le_of_lt hDp)
      omega
    · intro g
      have : n * D < 0 := Int.mul_neg_of_neg_of_pos g hDp
      rw [h] at this
      apply Int.not_le.1
      intro g2
      have := Int.mul_nonneg g2 (show (0 : Int) ≤ d by omega)
      omega
  have hx : N.natAbs * d.natAbs = n.natAbs * D := by
    have := congrArg Int.natAbs h
    rw [Int.natAbs_mul, Int.natAbs_mul] at this
    simpa using this.symm
  unfold zq
  rw [hs, quo_cross hD (by omega) h2 hx]
  unfold fit fitB sg
  unfold i64 at hn hd
  by_cases hneg : n < 0
  · rw [if_pos (by simp [hneg]; omega)]; simp [hneg]; omega
  · rw [if_pos (by simp [hneg]; omega)]; simp [hneg]; omega
/-- Either the quotient fits, or the error. -/
theorem zq_cases (N : Int) (D : Nat) : (∃ n d, zq N D = (n, d, 0)) ∨ zq N D = (0, 0, 3) := by
  unfold zq quo fit
  split
  · exact .inl ⟨_, _, rfl⟩
  · exact .inr rfl
/-- Two quotients of one value are one. -/
theorem zq_congr {N M : Int} {D E : Nat} (hD : 0 < D) (hE : 0 < E) (h : N * E = M * D) : zq N D = zq M E := by
  have key : ∀ {N M : Int} {D E : Nat}, 0 < D → 0 < E → N * E = M * D → ∀ n d, zq N D = (n, d, 0) → zq M E = (n, d, 0) := by
    intro N M D E hD hE h n d hz
    obtain ⟨h1, h2, h3, h4⟩ := zq_ok hD hz
    refine zq_of hE h2 h3 h4 ?_
    have hDp : (D : Int) ≠ 0 := by omega
    apply Int.eq_of_mul_eq_mul_right hDp
    grind
  rcases zq_cases N D with ⟨n, d, e⟩ | e
  · rw [e, key hD hE h n d e]
  · rcases zq_cases M E with ⟨n, d, e'⟩ | e'
    · rw [key hE hD h.symm n d e'] at e
      simp at e
    · rw [e, e']
theorem fit_cases (neg : Bool) (p q : Nat) : (fitB neg p q = true ∧ fit neg p q = (sg neg p, (q : Int), 0)) ∨ (fitB neg p q = false ∧ fit neg p q = (0, 0, 3)) := by
  unfold fit
  cases h : fitB neg p q
  · exact .inr ⟨rfl, by simp⟩
  · exact .inl ⟨rfl, by simp⟩
theorem valid_zq {n d : Int} (hv : validS n d = true) (hn : i64 n) (hd : i64 d) : zq n d.natAbs = (n, d, 0) := by
  have := (valid_iff.1 hv).1
  exact zq_of (by omega) hv hn hd (by rw [show ((d.natAbs : Nat) : Int) = d by omega])
theorem make_zq {n d : Int} (h : 1 ≤ d) : makeS n d = zq n d.natAbs := by
  unfold makeS zq
  rw [if_neg (by omega), show decide (d < 0) = false by simp; omega]
  simp
theorem make_valid {n d : Int} (hn : i64 n) (hd : i64 d) (h : validS n d = true) : makeS n d = (n, d, 0) := by
  rw [make_zq (valid_iff.1 h).1]; exact valid_zq h hn hd
theorem quo_den {neg : Bool} {a b : Nat} {n d : Int} (h : quo neg a b = (n, d, 0)) : 0 ≤ d := by
  unfold quo fit at h
  split at h
  · have := congrArg (fun r => r.2.1) h
    simp only at this
    rw [← this]
    exact Int.natCast_nonneg _
  · simp at h
theorem valid_make {n d : Int} (h : makeS n d = (n, d, 0)) : validS n d = true := by
  by_cases h1 : 1 ≤ d
  · rw [make_zq h1] at h
    exact (zq_ok (by omega) h).2.1
  · exfalso
    unfold makeS at h
    by_cases h0 : d = 0
    · rw [if_pos h0] at h; simp at h
    · rw [if_neg h0] at h
      have := quo_den h
      omega
theorem valid_no {n d : Int} (h : ¬ 1 ≤ d) : validS n d = false := by
  cases e : validS n d
  · rfl
  · exact absurd (valid_iff.1 e).1 h
end Go.Proofs.YtjighmmfaedgbaaDoor.RatM
