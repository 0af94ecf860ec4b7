/-
  Plain facts about what the laws of the rational numbers compare. No program in sight.
-/
import Derived.Test.YtjighmmfaedgbaaDoorRatQuo
namespace Go.Proofs.YtjighmmfaedgbaaDoor.RatM

theorem fit_i64 {neg : Bool} {p q : Nat} {x y k : Int} (h : fit neg p q = (x, y, k)) : i64 x ∧ i64 y := by
  rcases fit_cases neg p q with ⟨hb, e⟩ | ⟨_, e⟩
  · rw [e] at h
    simp only [Prod.mk.injEq] at h
    obtain ⟨rfl, rfl, _⟩ := h
    simp only [fitB, decide_eq_true_eq] at hb
    unfold i64 sg
    cases neg <;> simp at hb ⊢ <;> omega
  · rw [e] at h
    simp only [Prod.mk.injEq] at h
    obtain ⟨rfl, rfl, _⟩ := h
    unfold i64; omega
theorem zq_i64 {N : Int} {D : Nat} {x y k : Int} (h : zq N D = (x, y, k)) : i64 x ∧ i64 y := fit_i64 (by unfold zq quo at h; exact h)
theorem zero_i64 {x y k j : Int} (h : ((0 : Int), (0 : Int), j) = (x, y, k)) : i64 x ∧ i64 y := by
  simp only [Prod.mk.injEq] at h
  obtain ⟨rfl, rfl, _⟩ := h
  unfold i64; omega
theorem make_i64 {n d x y k : Int} (h : makeS n d = (x, y, k)) : i64 x ∧ i64 y := by
  unfold makeS at h
  split at h
  · exact zero_i64 h
  · unfold quo at h; exact fit_i64 h
theorem add_i64 {a b c d x y k : Int} (h : addS a b c d = (x, y, k)) : i64 x ∧ i64 y := by
  unfold addS at h
  split at h
  · exact zq_i64 h
  · exact zero_i64 h
theorem sub_i64 {a b c d x y k : Int} (h : subS a b c d = (x, y, k)) : i64 x ∧ i64 y := by
  unfold subS at h
  split at h
  · exact zq_i64 h
  · exact zero_i64 h
theorem mul_i64 {a b c d x y k : Int} (h : mulS a b c d = (x, y, k)) : i64 x ∧ i64 y := by
  unfold mulS at h
  split at h
  · exact zq_i64 h
  · exact zero_i64 h
theorem one_ne {x y : Int} : ¬ ((0 : Int), (0 : Int), (1 : Int)) = (x, y, 0) := by simp
theorem both {p q : Bool} (h : ¬ (p && q) = true) : p = false ∨ q = false := by cases p <;> cases q <;> simp_all
theorem mul_pos {b d : Int} (hb : 1 ≤ b) (hd : 1 ≤ d) : 1 ≤ b * d := by have := Int.mul_pos (show 0 < b by omega) (show 0 < d by omega); omega
theorem abs_mul {b d : Int} (hb : 1 ≤ b) (hd : 1 ≤ d) : (((b * d).natAbs : Nat) : Int) = b * d := by have := mul_pos hb hd; omega
theorem abs_pos {b d : Int} (hb : 1 ≤ b) (hd : 1 ≤ d) : 0 < (b * d).natAbs := by have := mul_pos hb hd; omega
theorem valid_den {n d : Int} (h : validS n d = true) : 1 ≤ d := (valid_iff.1 h).1
/-- What a sum that fits is. -/
theorem add_ok {a b c d x y : Int} (h : addS a b c d = (x, y, 0)) : validS a b = true ∧ validS c d = true ∧ validS x y = true ∧ x * (b * d) = (a * d + c * b) * y := by
  unfold addS at h
  by_cases hv : (validS a b && validS c d) = true
  · rw [if_pos hv] at h
    rw [Bool.and_eq_true] at hv
    obtain ⟨h1, h2⟩ := hv
    obtain ⟨e, v, _, _⟩ := zq_ok (abs_pos (valid_den h1) (valid_den h2)) h
    rw [abs_mul (valid_den h1) (valid_den h2)] at e
    exact ⟨h1, h2, v, e⟩
  · rw [if_neg hv] at h; exact absurd h one_ne
theorem sub_ok {a b c d x y : Int} (h : subS a b c d = (x, y, 0)) : validS a b = true ∧ validS c d = true ∧ validS x y = true ∧ x * (b * d) = (a * d - c * b) * y := by
  unfold subS at h
  by_cases hv : (validS a b && validS c d) = true
  · rw [if_pos hv] at h
    rw [Bool.and_eq_true] at hv
    obtain ⟨h1, h2⟩ := hv
    obtain ⟨e, v, _, _⟩ := zq_ok (abs_pos (valid_den h1) (valid_den h2)) h
    rw [abs_mul (valid_den h1) (valid_den h2)] at e
    exact ⟨h1, h2, v, e⟩
  · rw [if_neg hv] at h; exact absurd h one_ne
theorem mul_ok {a b c d x y : Int} (h : mulS a b c d = (x, y, 0)) : validS a b = true ∧ validS c d = true ∧ validS x y = true ∧ x * (b * d) = (a * c) * y := by
  unfold mulS at h
  by_cases hv : (validS a b && validS c d) = true
  · rw [if_pos hv] at h
    rw [Bool.and_eq_true] at hv
    obtain ⟨h1, h2⟩ := hv
    obtain ⟨e, v, _, _⟩ := zq_ok (abs_pos (valid_den h1) (valid_den h2)) h
    rw [abs_mul (valid_den h1) (valid_den h2)] at e
    exact ⟨h1, h2, v, e⟩
  · rw [if_neg hv] at h; exact absurd h one_ne
theorem sub_val {a b c d : Int} (h1 : validS a b = true) (h2 : validS c d = true) : subS a b c d = zq (a * d - c * b) (b * d).natAbs := by unfold subS; rw [h1, h2]; rfl
theorem add_val' {a b c d : Int} (h1 : validS a b = true) (h2 : validS c d = true) : addS a b c d = zq (a * d + c * b) (b * d).natAbs := by unfold addS; rw [h1, h2]; rfl
theorem mul_val {a b c d : Int} (h1 : validS a b = true) (h2 : validS c d = true) : mulS a b c d = zq (a * c) (b * d).natAbs := by unfold mulS; rw [h1, h2]; rfl
theorem sub_back {a b c d x y : Int} (ha : i64 a) (hb : i64 b) (h : addS a b c d = (x, y, 0)) : subS x y c d = (a, b, 0) := by
  obtain ⟨h1, h2, h3, e⟩ := add_ok h
  rw [sub_val h3 h2]
  refine zq_of (abs_pos (valid_den h3) (valid_den h2)) h1 ha hb ?_
  rw [abs_mul (valid_den h3) (valid_den h2)]
  grind
theorem sg_mul3 {x c : Int} {D : Nat} : ∃ s : Int, (s = 1 ∨ s = -1) ∧ sg (decide (x < 0) != decide (c < 0)) (x.natAbs * D) = s * x * D ∧ (c.natAbs : Int) = s * c := by
  by_cases hc : c < 0
  · refine ⟨-1, .inr rfl, ?_, by omega⟩
    by_cases hx : x < 0
    · have e : (x.natAbs : Int) = -x := by omega
      simp [sg, hx, hc, e, Int.neg_mul]
    · have e : (x.natAbs : Int) = x := by omega
      simp [sg, hx, hc, e, Int.neg_mul]
  · refine ⟨1, .inl rfl, ?_, by omega⟩
    by_cases hx : x < 0
    · have e : (x.natAbs : Int) = -x := by omega
      simp [sg, hx, hc, e, Int.neg_mul]
    · have e : (x.natAbs : Int) = x := by omega
      simp [sg, hx, hc, e]
theorem div_back {a b c d x y : Int} (ha : i64 a) (hb : i64 b) (hc : ¬ c = 0) (h : mulS a b c d = (x, y, 0)) : divS x y c d = (a, b, 0) := by
  obtain ⟨h1, h2, h3, e⟩ := mul_ok h
  have y1 := valid_den h3
  have d1 := valid_den h2
  have hD : 0 < y.natAbs * c.natAbs := Nat.mul_pos (by omega) (by omega)
  unfold divS
  rw [h3, h2, if_pos (by rfl), if_neg hc, quo_zq _ _ hD]
  obtain ⟨s, hs, e1, e2⟩ := sg_mul3 (x := x) (c := c) (D := d.natAbs)
  rw [e1]
  refine zq_of hD h1 ha hb ?_
  rw [Int.natCast_mul, e2, show ((y.natAbs : Nat) : Int) = y by omega, show ((d.natAbs : Nat) : Int) = d by omega]
  grind
theorem cmp_flip {a b c d n e : Int} (h : cmpS a b c d = (n, e)) : cmpS c d a b = (-n, e) := by
  unfold cmpS at h ⊢
  rw [Bool.and_comm]
  split at h <;> rename_i hv
  · rw [if_pos hv]
    split at h <;> rename_i h1
    · simp only [Prod.mk.injEq] at h
      obtain ⟨rfl, rfl⟩ := h
      rw [if_neg (by omega), if_neg (by omega)]; rfl
    · split at h <;> rename_i h2
      · simp only [Prod.mk.injEq] at h
        obtain ⟨rfl, rfl⟩ := h
        rw [if_neg (by omega), if_pos (by omega)]; rfl
      · simp only [Prod.mk.injEq] at h
        obtain ⟨rfl, rfl⟩ := h
        rw [if_pos (by omega)]
  · rw [if_neg hv]
    simp only [Prod.mk.injEq] at h ⊢
    omega
theorem cmp_i64 {a b c d n e : Int} (h : cmpS a b c d = (n, e)) : n = -1 ∨ n = 0 ∨ n = 1 := by
  unfold cmpS at h
  split at h
  · split at h
    · simp only [Prod.mk.injEq] at h; omega
    · split at h <;> (simp only [Prod.mk.injEq] at h; omega)
  · simp only [Prod.mk.injEq] at h; omega
theorem cmp_sub {a b c d n e x y : Int} (h : cmpS a b c d = (n, e)) (hs : subS a b c d = (x, y, 0)) : (x < 0 ↔ n < 0) ∧ (x = 0 ↔ n = 0) ∧ (n = 0 ↔ (a = c ∧ b = d)) := by
  obtain ⟨h1, h2, h3, e⟩ := sub_ok hs
  have hbd := mul_pos (valid_den h1) (valid_den h2)
  have hy := valid_den h3
  have hn : (a * d - c * b < 0 ↔ n < 0) ∧ (a * d - c * b = 0 ↔ n = 0) := by
    unfold cmpS at h
    rw [h1, h2] at h
    simp only [Bool.and_self, if_true] at h
    split at h <;> rename_i g1
    · simp only [Prod.mk.injEq] at h; omega
    · split at h <;> rename_i g2 <;> (simp only [Prod.mk.injEq] at h; omega)
  have hx : (x < 0 ↔ a * d - c * b < 0) ∧ (x = 0 ↔ a * d - c * b = 0) := by
    generalize a * d - c * b = N at *
    generalize b * d = M at *
    have k1 : x < 0 ↔ x * M < 0 := ⟨fun g => Int.mul_neg_of_neg_of_pos g (by omega), fun g => by
      apply Int.not_le.1; intro g2; have := Int.mul_nonneg g2 (show 0 ≤ M by omega); omega⟩
    have k2 : N < 0 ↔ N * y < 0 := ⟨fun g => Int.mul_neg_of_neg_of_pos g (by omega), fun g => by
      apply Int.not_le.1; intro g2; have := Int.mul_nonneg g2 (show 0 ≤ y by omega); omega⟩
    have k3 : x = 0 ↔ x * M = 0 := ⟨fun g => by rw [g, Int.zero_mul], fun g => by rcases Int.mul_eq_zero.1 g with g | g <;> omega⟩
    have k4 : N = 0 ↔ N * y = 0 := ⟨fun g => by rw [g, Int.zero_mul], fun g => by rcases Int.mul_eq_zero.1 g with g | g <;> omega⟩
    rw [k1, k2, k3, k4, e]
    exact ⟨Iff.rfl, Iff.rfl⟩
  refine ⟨hx.1.trans hn.1, hx.2.trans hn.2, ?_⟩
  rw [← hn.2]
  constructor
  · intro e0
    obtain ⟨b2, g1⟩ := valid_iff.1 h1
    obtain ⟨d2, g2⟩ := valid_iff.1 h2
    have e' : a * d = c * b := by omega
    have hx : a.natAbs * d.natAbs = c.natAbs * b.natAbs := by rw [← Int.natAbs_mul, ← Int.natAbs_mul, e']
    obtain ⟨k1, k2⟩ := eq_of_cross g1 g2 (by omega) (by omega) hx
    have hbd : b = d := by omega
    subst hbd
    exact ⟨Int.eq_of_mul_eq_mul_right (by omega) e', rfl⟩
  · rintro ⟨rfl, rfl⟩; omega
theorem add_comm' (a b c d : Int) : addS a b c d = addS c d a b := by
  unfold addS
  rw [Bool.and_comm, Int.add_comm, Int.mul_comm b d]
theorem mul_comm' (a b c d : Int) : mulS a b c d = mulS c d a b := by
  unfold mulS
  rw [Bool.and_comm, Int.mul_comm a c, Int.mul_comm b d]
theorem cancel {x y d : Int} (hd : 1 ≤ d) (h : x * d = y * d) : x = y := Int.eq_of_mul_eq_mul_right (by omega) h
theorem add_assoc' {a b c d e f x1 y1 x2 y2 x y u v : Int} (h1 : addS a b c d = (x1, y1, 0)) (h2 : addS c d e f = (x2, y2, 0)) (h3 : addS x1 y1 e f = (x, y, 0)) (h4 : addS a b x2 y2 = (u, v, 0)) : x = u ∧ y = v := by
  obtain ⟨va, vc, v1, e1⟩ := add_ok h1
  obtain ⟨_, ve, v2, e2⟩ := add_ok h2
  rw [add_val' v1 ve] at h3
  rw [add_val' va v2] at h4
  have hd := valid_den vc
  have hz := zq_congr (N := x1 * f + e * y1) (M := a * y2 + x2 * b) (abs_pos (valid_den v1) (valid_den ve)) (abs_pos (valid_den va) (valid_den v2)) (by
    rw [abs_mul (valid_den v1) (valid_den ve), abs_mul (valid_den va) (valid_den v2)]
    apply cancel hd
    grind)
  rw [h3, h4] at hz
  simp only [Prod.mk.injEq] at hz
  exact ⟨hz.1, hz.2.1⟩
theorem distrib' {a b c d e f x2 y2 px py qx qy x y u v : Int} (h2 : addS c d e f = (x2, y2, 0)) (hp : mulS a b c d = (px, py, 0)) (hq : mulS a b e f = (qx, qy, 0)) (h3 : mulS a b x2 y2 = (x, y, 0)) (h4 : addS px py qx qy = (u, v, 0)) : x = u ∧ y = v := by
  obtain ⟨vc, ve, v2, e2⟩ := add_ok h2
  obtain ⟨va, _, vp, ep⟩ := mul_ok hp
  obtain ⟨_, _, vq, eq⟩ := mul_ok hq
  rw [mul_val va v2] at h3
  rw [add_val' vp vq] at h4
  have hd := valid_den vc
  have hf := valid_den ve
  have hb := valid_den va
  have hz := zq_congr (N := a * x2) (M := px * qy + qx * py) (abs_pos (valid_den va) (valid_den v2)) (abs_pos (valid_den vp) (valid_den vq)) (by
    rw [abs_mul (valid_den va) (valid_den v2), abs_mul (valid_den vp) (valid_den vq)]
    apply cancel (mul_pos (mul_pos hb hd) hf)
    have t1 : a * x2 * (py * qy) * (b * d * f) = a * b * (py * qy) * (x2 * (d * f)) := by grind
    have t2 : (px * qy + qx * py) * (b * y2) * (b * d * f) = (px * (b * d)) * (f * qy * b * y2) + (qx * (b * f)) * (d * py * b * y2) := by grind
    rw [t1, t2, e2, ep, eq]
    grind)
  rw [h3, h4] at hz
  simp only [Prod.mk.injEq] at hz
  exact ⟨hz.1, hz.2.1⟩
theorem div_self' {a b x y : Int} (h : divS a b a b = (x, y, 0)) : x = 1 ∧ y = 1 := by
  unfold divS at h
  split at h
  · rename_i hv
    rw [Bool.and_self] at hv
    split at h <;> rename_i ha
    · simp at h
    · have hm : 0 < a.natAbs * b.natAbs := Nat.mul_pos (by omega) (by have := valid_den hv; omega)
      have e : quo (decide (a < 0) != decide (a < 0)) (a.natAbs * b.natAbs) (b.natAbs * a.natAbs) = (1, 1, 0) := by
        rw [Nat.mul_comm b.natAbs]
        unfold quo
        rw [Nat.gcd_self, Nat.div_self hm]
        simp [fit, fitB, sg]
      rw [e] at h
      simp only [Prod.mk.injEq] at h
      omega
  · exact absurd h one_ne
theorem make_back {n d x y : Int} (h : makeS n d = (x, y, 0)) : makeS x y = (x, y, 0) ∧ validS x y = true := by
  unfold makeS at h
  split at h <;> rename_i h0
  · simp at h
  · have hd : 0 < d.natAbs := by omega
    rw [quo_zq _ _ hd] at h
    obtain ⟨_, v, i1, i2⟩ := zq_ok hd h
    exact ⟨make_valid i1 i2 v, v⟩
end Go.Proofs.YtjighmmfaedgbaaDoor.RatM
