/-
  Quotients, digit by digit. No program in sight.
-/
import Derived.Test.YtjighmmfaedgbaaDoorRatProd
namespace Go.Proofs.YtjighmmfaedgbaaDoor.RatM

theorem div_succ (a k : Nat) : a / 10000 ^ k = 10000 * (a / 10000 ^ (k + 1)) + ix (digs a) k := by
  rw [ix_digs, Nat.pow_succ, ← Nat.div_div_eq_div_mul]
  omega
theorem digs_i64 {n : Nat} (h : n ≤ 9223372036854775808) : (digs n).length ≤ 5 := digs_len_le (Nat.lt_of_le_of_lt h (by decide +kernel))
/-- What is left behind the digits from k on. -/
def left (a b k : Nat) : Nat := (a / 10000 ^ k) % b
theorem left_top {a b : Nat} : left a b (digs a).length = 0 := by unfold left; rw [Nat.div_eq_of_lt (digs_lt a), Nat.zero_mod]
theorem left_zero {a b : Nat} : left a b 0 = a % b := by unfold left; rw [Nat.pow_zero, Nat.div_one]
theorem left_step {a b k N : Nat} (hb : 0 < b) (hN : ix (digs a) k + 10000 * left a b (k + 1) = N) :
    N / b ≤ 9999 ∧ left a b k = N - b * (N / b) ∧ a / b / 10000 ^ k % 10000 = N / b ∧ (digs N).length ≤ (digs b).length + 1 := by
  have hr : left a b (k + 1) < b := Nat.mod_lt _ hb
  have ha := ix_low (low_digs a) k
  have hlt : N < 10000 * b := by omega
  have e : a / 10000 ^ k = N + b * (10000 * (a / 10000 ^ (k + 1) / b)) := by
    rw [div_succ a k, ← hN, ← Nat.mul_assoc, Nat.mul_comm b 10000, Nat.mul_assoc]
    have := Nat.div_add_mod (a / 10000 ^ (k + 1)) b
    unfold left
    omega
  have hq : N / b ≤ 9999 := by
    have : N / b < 10000 := Nat.div_lt_of_lt_mul (by rw [Nat.mul_comm]; exact hlt)
    omega
  refine ⟨hq, ?_, ?_, ?_⟩
  · have : left a b k = N % b := by rw [left, e, Nat.add_mul_mod_self_left]
    rw [this, Nat.mod_eq_sub_mul_div]
  · rw [Nat.div_div_eq_div_mul, Nat.mul_comm b, ← Nat.div_div_eq_div_mul, e, Nat.add_mul_div_left _ _ hb]
    generalize N / b = q at *
    generalize a / 10000 ^ (k + 1) / b = r at *
    omega
  · apply digs_len_le
    have := digs_lt b
    rw [Nat.pow_succ]
    omega
/-- The row of the quotient's digits behind the digits from k on. -/
def quoL (q n k : Nat) : List Nat := (List.range n).map fun j => if j < k then 0 else q / 10000 ^ j % 10000
theorem quoL_len (q n k : Nat) : (quoL q n k).length = n := by simp [quoL]
theorem quoL_at (q n k : Nat) {j : Nat} (h : j < n) : ix (quoL q n k) j = if j < k then 0 else q / 10000 ^ j % 10000 := by
  unfold ix quoL
  rw [List.getD_eq_getElem?_getD, List.getElem?_map, List.getElem?_range h]
  rfl
theorem quoL_start (q n : Nat) {j : Nat} (h : j < n) : ix (quoL q n n) j = 0 := by rw [quoL_at _ _ _ h, if_pos h]
theorem quoL_next (q n k : Nat) {j d : Nat} (hd : q / 10000 ^ k % 10000 = d) (h : j < n) : ix ((quoL q n (k + 1)).set k d) j = ix (quoL q n k) j := by
  by_cases hk : k < n
  · rw [ix_set (by rw [quoL_len]; exact hk), quoL_at _ _ _ h, quoL_at _ _ _ h]
    by_cases e : j = k
    · subst e; rw [if_pos rfl, if_neg (by omega), hd]
    · rw [if_neg e]
      by_cases g : j < k
      · rw [if_pos (by omega), if_pos g]
      · rw [if_neg (by omega), if_neg g]
  · rw [List.set_eq_of_length_le (by rw [quoL_len]; omega), quoL_at _ _ _ h, quoL_at _ _ _ h, if_pos (by omega), if_pos (by omega)]
theorem quoL_end {q n : Nat} (h : (digs q).length ≤ n) : trimL (quoL q n 0) = digs q := by
  apply list_of_at
  · rw [quoL_len]; exact h
  · intro k hk
    rw [quoL_len] at hk
    exact (quoL_at q n 0 hk).trans (if_neg (by omega))
theorem next_list {a b k N : Nat} (hN : ix (digs a) k + 10000 * left a b (k + 1) = N) : trimL ([ix (digs a) k] ++ digs (left a b (k + 1))) = digs N := by
  rw [trim_digs, vd_append, vd_digs]
  · simp only [vd, List.length_singleton, Nat.pow_one]
    congr 1
  · intro d hd
    rcases List.mem_append.1 hd with e | e
    · simp at e
      have := ix_low (low_digs a) k
      omega
    · exact low_digs _ d e
theorem half_le {lo hi q mid b N : Nat} (hb : 0 < b) (hq : N / b = q) (hm : (lo + hi + 1) / 2 = mid) (hlt : lo < hi) :
    (b * mid ≤ N → mid ≤ q) ∧ (¬ b * mid ≤ N → q ≤ mid - 1) ∧ lo < mid ∧ mid ≤ hi := by
  have := Nat.le_div_iff_mul_le hb (x := mid) (y := N)
  rw [hq, Nat.mul_comm] at this
  refine ⟨this.2, fun h => ?_, by omega, by omega⟩
  have : ¬ mid ≤ q := fun g => h (this.1 g)
  omega
end Go.Proofs.YtjighmmfaedgbaaDoor.RatM
