/-
  Products, digit by digit. No program in sight.
-/
import Derived.Test.YtjighmmfaedgbaaDoorRatDig
namespace Go.Proofs.YtjighmmfaedgbaaDoor.RatM

theorem ix_set {l : List Nat} {j k x : Nat} (h : j < l.length) : ix (l.set j x) k = if k = j then x else ix l k := by
  unfold ix
  rw [List.getD_eq_getElem?_getD, List.getD_eq_getElem?_getD, List.getElem?_set]
  by_cases e : k = j
  · subst e; rw [if_pos rfl, if_pos h, if_pos rfl]; rfl
  · rw [if_neg (fun h => e h.symm), if_neg e]
theorem vd_set {l : List Nat} {j : Nat} (x : Nat) (h : j < l.length) : vd (l.set j x) + 10000 ^ j * ix l j = vd l + 10000 ^ j * x := by
  induction l generalizing j with
  | nil => simp at h
  | cons d l ih =>
    cases j with
    | zero => simp only [List.set_cons_zero, vd, ix, List.getD_cons_zero, Nat.pow_zero, Nat.one_mul]; omega
    | succ j =>
      have := ih (j := j) (by simpa using h)
      have e : ix (d :: l) (j + 1) = ix l j := by unfold ix; rw [List.getD_cons_succ]
      rw [List.set_cons_succ, vd, vd, e, Nat.pow_succ, Nat.mul_comm (10000 ^ j) 10000, Nat.mul_assoc, Nat.mul_assoc]
      omega
theorem vd_ge (l : List Nat) (j : Nat) : 10000 ^ j * ix l j ≤ vd l := by
  induction l generalizing j with
  | nil => simp [ix]
  | cons d l ih =>
    cases j with
    | zero => simp [vd, ix]
    | succ j =>
      have := ih j
      have e : ix (d :: l) (j + 1) = ix l j := by unfold ix; rw [List.getD_cons_succ]
      rw [e, vd, Nat.pow_succ, Nat.mul_comm (10000 ^ j) 10000, Nat.mul_assoc]; omega
theorem low_of_ix {l : List Nat} (h : ∀ j, ix l j < 10000) : low l := by
  intro d hd
  obtain ⟨k, hk, rfl⟩ := List.getElem_of_mem hd
  have := h k
  unfold ix at this
  rw [List.getD_eq_getElem?_getD, List.getElem?_eq_getElem hk] at this
  exact this
theorem vd_zeros (n : Nat) : vd (List.replicate n 0) = 0 := by
  induction n with
  | zero => rfl
  | succ n ih => rw [List.replicate_succ, vd, ih]
theorem ix_zeros (n j : Nat) : ix (List.replicate n 0) j = 0 := by
  unfold ix
  rw [List.getD_eq_getElem?_getD, List.getElem?_replicate]
  split <;> rfl
/-- What the digits' row holds behind i rounds and k of the next. -/
def timesRel (A B T i k : Nat) (ds : List Nat) : Prop :=
  ds.length = T ∧ (∀ j, j ≠ i + k → ix ds j < 10000) ∧ ix ds (i + k) < 20000 ∧ vd ds = (A % 10000 ^ i) * B + 10000 ^ i * ix (digs A) i * (B % 10000 ^ k)
def outerRel (A B T i : Nat) (ds : List Nat) : Prop := ds.length = T ∧ (∀ j, ix ds j < 10000) ∧ vd ds = (A % 10000 ^ i) * B
theorem outer_start (A B T : Nat) : outerRel A B T 0 (List.replicate T 0) := ⟨by simp, fun j => by rw [ix_zeros]; omega, by rw [vd_zeros, Nat.pow_zero, Nat.mod_one, Nat.zero_mul]⟩
theorem outer_inner {A B T i : Nat} {ds : List Nat} (h : outerRel A B T i ds) : timesRel A B T i 0 ds := by
  obtain ⟨h1, h2, h3⟩ := h
  exact ⟨h1, fun j _ => h2 j, Nat.lt_trans (h2 _) (by omega), by rw [h3, Nat.pow_zero, Nat.mod_one, Nat.mul_zero, Nat.add_zero]⟩
theorem inner_outer {A B T i : Nat} {ds : List Nat} (h : timesRel A B T i (digs B).length ds) : outerRel A B T (i + 1) ds := by
  obtain ⟨h1, h2, _, h4⟩ := h
  have hB := digs_lt B
  rw [Nat.mod_eq_of_lt hB, ← Nat.add_mul] at h4
  have h5 : vd ds = (A % 10000 ^ (i + 1)) * B := by rw [h4, mod_succ, ix_digs]
  refine ⟨h1, fun j => ?_, h5⟩
  by_cases e : j = i + (digs B).length
  · have g := vd_ge ds j
    have hlt : vd ds < 10000 ^ (i + 1) * 10000 ^ (digs B).length := by
      rw [h5]
      exact Nat.mul_lt_mul'' (Nat.mod_lt _ (Nat.pow_pos (by omega))) hB
    rw [← Nat.pow_add, show i + 1 + (digs B).length = j + 1 by omega, Nat.pow_succ] at hlt
    exact Nat.lt_of_mul_lt_mul_left (Nat.lt_of_le_of_lt g hlt)
  · exact h2 j e
theorem outer_end {A B T : Nat} {ds : List Nat} (h : outerRel A B T (digs A).length ds) : low ds ∧ vd ds = A * B := by
  obtain ⟨_, h2, h3⟩ := h
  exact ⟨low_of_ix h2, by rw [h3, Nat.mod_eq_of_lt (digs_lt A)]⟩
theorem times_step {A B T i k x : Nat} {ds : List Nat} (h : timesRel A B T i k ds) (hT : i + k + 1 < T) (hx : ix ds (i + k) + ix (digs A) i * ix (digs B) k = x) :
    x ≤ 100000000 ∧ timesRel A B T i (k + 1) (((ds.set (i + k) x).set (i + k + 1) (ix ds (i + k + 1) + x / 10000)).set (i + k) (x % 10000)) := by
  obtain ⟨h1, h2, h3, h4⟩ := h
  have ha := ix_low (low_digs A) i
  have hb := ix_low (low_digs B) k
  have hab : ix (digs A) i * ix (digs B) k ≤ 9999 * 9999 := Nat.mul_le_mul (by omega) (by omega)
  have hx1 : x ≤ 100000000 := by omega
  have hn := h2 (i + k + 1) (by omega)
  refine ⟨hx1, by simp [h1], fun j hj => ?_, ?_, ?_⟩
  · rw [ix_set (by simp; omega)]
    by_cases e : j = i + k
    · rw [if_pos e]; omega
    · rw [if_neg e, ix_set (by simp; omega), if_neg (by omega), ix_set (by omega), if_neg e]
      exact h2 j e
  · rw [ix_set (by simp; omega), if_neg (by omega), ix_set (by simp; omega), if_pos (by omega)]
    omega
  · have v1 := vd_set x (show i + k < ds.length by omega)
    have v2 := vd_set (l := ds.set (i + k) x) (ix ds (i + k + 1) + x / 10000) (show i + k + 1 < (ds.set (i + k) x).length by simp; omega)
    have v3 := vd_set (l := (ds.set (i + k) x).set (i + k + 1) (ix ds (i + k + 1) + x / 10000)) (x % 10000) (show i + k < ((ds.set (i + k) x).set (i + k + 1) (ix ds (i + k + 1) + x / 10000)).length by simp; omega)
    rw [ix_set (by omega), if_neg (by omega)] at v2
    rw [ix_set (by simp; omega), if_neg (by omega), ix_set (by omega), if_pos rfl] at v3
    rw [mod_succ B k, ← ix_digs B k]
    rw [h4] at v1
    generalize vd (ds.set (i + k) x) = V1 at *
    generalize vd ((ds.set (i + k) x).set (i + k + 1) (ix ds (i + k + 1) + x / 10000)) = V2 at *
    generalize vd (((ds.set (i + k) x).set (i + k + 1) (ix ds (i + k + 1) + x / 10000)).set (i + k) (x % 10000)) = V3 at *
    generalize ix ds (i + k) = o at *
    generalize ix ds (i + k + 1) = p at *
    generalize ix (digs A) i = a at *
    generalize ix (digs B) k = b at *
    generalize A % 10000 ^ i * B = C at *
    generalize B % 10000 ^ k = D at *
    rw [Nat.pow_succ, Nat.pow_add] at v2
    rw [Nat.pow_add] at v1 v3
    generalize 10000 ^ i = P at *
    generalize 10000 ^ k = Q at *
    have e1 : P * Q * x = P * Q * o + P * a * (Q * b) := by rw [← hx]; grind
    have e2 : P * Q * 10000 * (p + x / 10000) = P * Q * 10000 * p + P * Q * (10000 * (x / 10000)) := by grind
    have e3 : P * Q * (x % 10000) + P * Q * (10000 * (x / 10000)) = P * Q * x := by rw [← Nat.mul_add, Nat.mod_add_div]
    have e4 : P * a * (D + Q * b) = P * a * D + P * a * (Q * b) := by rw [Nat.mul_add]
    omega
end Go.Proofs.YtjighmmfaedgbaaDoor.RatM
