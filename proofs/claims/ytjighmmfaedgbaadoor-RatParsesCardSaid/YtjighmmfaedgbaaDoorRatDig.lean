/-
  Plain facts about the digits of natural numbers to the base 10000. No program in sight.
-/
namespace Go.Proofs.YtjighmmfaedgbaaDoor.RatM

/-- The value of a list of digits, the least one first. -/
def vd : List Nat → Nat
  | [] => 0
  | d :: l => d + 10000 * vd l
/-- The digits of a number, the least one first, without zeros at the end. -/
def digs (n : Nat) : List Nat := if h : n = 0 then [] else n % 10000 :: digs (n / 10000)
termination_by n
decreasing_by omega
/-- Zeros at the end left out. -/
def trimL : List Nat → List Nat
  | [] => []
  | d :: l => if trimL l = [] ∧ d = 0 then [] else d :: trimL l
def low (l : List Nat) : Prop := ∀ d ∈ l, d < 10000
/-- The digit at a place, 0 beyond the end. -/
def ix (l : List Nat) (k : Nat) : Nat := l.getD k 0

theorem digs_zero : digs 0 = [] := by rw [digs]; rfl
theorem digs_pos {n : Nat} (h : 0 < n) : digs n = n % 10000 :: digs (n / 10000) := by rw [digs, dif_neg (by omega)]
theorem vd_digs (n : Nat) : vd (digs n) = n := by
  induction n using Nat.strongRecOn with
  | _ n ih =>
    by_cases h : n = 0
    · subst h; rw [digs_zero]; rfl
    · rw [digs_pos (by omega), vd, ih (n / 10000) (by omega)]; omega
theorem low_digs (n : Nat) : low (digs n) := by
  induction n using Nat.strongRecOn with
  | _ n ih =>
    by_cases h : n = 0
    · subst h; rw [digs_zero]; intro d hd; cases hd
    · rw [digs_pos (by omega)]
      intro d hd
      rcases List.mem_cons.1 hd with e | e
      · omega
      · exact ih (n / 10000) (by omega) d e
theorem vd_zero_trim {l : List Nat} (h : vd l = 0) : trimL l = [] := by
  induction l with
  | nil => rfl
  | cons d l ih =>
    rw [vd] at h
    rw [trimL, if_pos ⟨ih (by omega), by omega⟩]
theorem trim_digs {l : List Nat} (h : low l) : trimL l = digs (vd l) := by
  induction l with
  | nil => rw [show vd [] = 0 from rfl, digs_zero]; rfl
  | cons d l ih =>
    have hl : low l := fun x hx => h x (List.mem_cons_of_mem _ hx)
    have hd : d < 10000 := h d (by simp)
    by_cases hz : d + 10000 * vd l = 0
    · rw [vd_zero_trim (by rw [vd]; exact hz), vd, hz, digs_zero]
    · rw [trimL, ih hl, vd, digs_pos (n := d + 10000 * vd l) (by omega), show (d + 10000 * vd l) % 10000 = d by omega, show (d + 10000 * vd l) / 10000 = vd l by omega, if_neg]
      intro ⟨h1, h2⟩
      have : vd (digs (vd l)) = 0 := by rw [h1]; rfl
      rw [vd_digs] at this
      omega
theorem trim_snoc_zero (l : List Nat) : trimL (l ++ [0]) = trimL l := by
  induction l with
  | nil => simp [trimL]
  | cons d l ih => rw [List.cons_append, trimL, ih, trimL]
theorem trim_snoc_pos (l : List Nat) {d : Nat} (h : d ≠ 0) : trimL (l ++ [d]) = l ++ [d] := by
  induction l with
  | nil => simp [trimL, h]
  | cons e l ih => rw [List.cons_append, trimL, ih, if_neg]; simp
theorem trim_last {l : List Nat} (h : l = [] ∨ l.getD (l.length - 1) 0 ≠ 0) : trimL l = l := by
  rcases l.eq_nil_or_concat with rfl | ⟨l', d, rfl⟩
  · rfl
  · rw [List.concat_eq_append] at *
    apply trim_snoc_pos
    rcases h with h | h
    · simp at h
    · simpa [List.getD_eq_getElem?_getD] using h
theorem trim_take {l : List Nat} {k : Nat} (hk : k < l.length) (h : l.getD k 0 = 0) : trimL (l.take (k + 1)) = trimL (l.take k) := by
  rw [List.take_succ_eq_append_getElem hk]
  have : l[k] = 0 := by simpa [List.getD_eq_getElem?_getD, List.getElem?_eq_getElem hk] using h
  rw [this, trim_snoc_zero]
theorem digs_last {n : Nat} (h : digs n ≠ []) : (digs n).getD ((digs n).length - 1) 0 ≠ 0 := by
  induction n using Nat.strongRecOn with
  | _ n ih =>
    by_cases h0 : n = 0
    · subst h0; rw [digs_zero] at h; exact absurd rfl h
    · rw [digs_pos (by omega)] at h ⊢
      by_cases h1 : n / 10000 = 0
      · rw [h1, digs_zero]; simp; omega
      · have := ih (n / 10000) (by omega) (by rw [digs_pos (n := n / 10000) (by omega)]; simp)
        have hp : 0 < (digs (n / 10000)).length := by rw [digs_pos (n := n / 10000) (by omega)]; simp
        obtain ⟨k, hk⟩ : ∃ k, (digs (n / 10000)).length = k + 1 := ⟨(digs (n / 10000)).length - 1, by omega⟩
        rw [hk] at this
        simp only [List.length_cons, hk]
        simpa [List.getD_eq_getElem?_getD] using this
theorem digs_trim (n : Nat) : trimL (digs n) = digs n := by rw [trim_digs (low_digs n), vd_digs]
theorem vd_append (l m : List Nat) : vd (l ++ m) = vd l + 10000 ^ l.length * vd m := by
  induction l with
  | nil => simp [vd]
  | cons d l ih =>
    rw [List.cons_append, vd, ih, vd, List.length_cons, Nat.pow_succ, Nat.mul_add, Nat.mul_comm (10000 ^ l.length) 10000, Nat.mul_assoc]; omega
theorem vd_snoc (l : List Nat) (d : Nat) : vd (l ++ [d]) = vd l + 10000 ^ l.length * d := by rw [vd_append]; simp [vd]
theorem vd_lt {l : List Nat} (h : low l) : vd l < 10000 ^ l.length := by
  induction l with
  | nil => simp [vd]
  | cons d l ih =>
    have := ih (fun x hx => h x (List.mem_cons_of_mem _ hx))
    have hd : d < 10000 := h d (by simp)
    rw [vd, List.length_cons, Nat.pow_succ]; omega
theorem digs_len_le {n k : Nat} (h : n < 10000 ^ k) : (digs n).length ≤ k := by
  induction k generalizing n with
  | zero => have : n = 0 := by simpa using h
            subst this; rw [digs_zero]; simp
  | succ k ih =>
    by_cases h0 : n = 0
    · subst h0; rw [digs_zero]; simp
    · rw [digs_pos (by omega), List.length_cons]
      have := ih (n := n / 10000) (by rw [Nat.div_lt_iff_lt_mul (by omega)]; rw [Nat.pow_succ] at h; exact h)
      omega
theorem digs_lt (n : Nat) : n < 10000 ^ (digs n).length := by
  have := vd_lt (low_digs n)
  rwa [vd_digs] at this
theorem digs_mono {m n : Nat} (h : m ≤ n) : (digs m).length ≤ (digs n).length := digs_len_le (Nat.lt_of_le_of_lt h (digs_lt n))
theorem digs_mul (m n : Nat) : (digs (m * n)).length ≤ (digs m).length + (digs n).length := by
  apply digs_len_le
  rw [Nat.pow_add]
  exact Nat.mul_lt_mul'' (digs_lt m) (digs_lt n)
theorem digs_add (m n : Nat) : (digs (m + n)).length ≤ max (digs m).length (digs n).length + 1 := by
  apply digs_len_le
  have h1 := Nat.lt_of_lt_of_le (digs_lt m) (Nat.pow_le_pow_right (by omega : 0 < 10000) (Nat.le_max_left (digs m).length (digs n).length))
  have h2 := Nat.lt_of_lt_of_le (digs_lt n) (Nat.pow_le_pow_right (by omega : 0 < 10000) (Nat.le_max_right (digs m).length (digs n).length))
  rw [Nat.pow_succ]; omega
theorem digs_len_lt {m n : Nat} (h : (digs m).length < (digs n).length) : m < n := by
  rcases Nat.lt_or_ge m n with g | g
  · exact g
  · have := digs_mono g; omega
/-- The digit at a place. -/
theorem digs_at (n k : Nat) : (digs n).getD k 0 = n / 10000 ^ k % 10000 := by
  induction k generalizing n with
  | zero =>
    by_cases h0 : n = 0
    · subst h0; rw [digs_zero]; simp
    · rw [digs_pos (by omega)]; simp
  | succ k ih =>
    by_cases h0 : n = 0
    · subst h0; rw [digs_zero]; simp
    · rw [digs_pos (by omega), List.getD_cons_succ, ih, Nat.pow_succ, Nat.mul_comm, Nat.div_div_eq_div_mul]
theorem at_low {l : List Nat} (h : low l) (k : Nat) : l.getD k 0 < 10000 := by
  rw [List.getD_eq_getElem?_getD]
  by_cases hk : k < l.length
  · rw [List.getElem?_eq_getElem hk]; exact h _ (List.getElem_mem _)
  · rw [List.getElem?_eq_none (by omega)]; simp
theorem ix_get {l : List Nat} {k : Nat} (h : k < l.length) : l[k]? = some (ix l k) := by
  unfold ix; rw [List.getD_eq_getElem?_getD, List.getElem?_eq_getElem h]; rfl
theorem ix_out {l : List Nat} {k : Nat} (h : l.length ≤ k) : ix l k = 0 := by
  unfold ix; rw [List.getD_eq_getElem?_getD, List.getElem?_eq_none h]; rfl
theorem ix_digs (n k : Nat) : ix (digs n) k = n / 10000 ^ k % 10000 := digs_at n k
theorem ix_low {l : List Nat} (h : low l) (k : Nat) : ix l k < 10000 := at_low h k
theorem ix_take {l : List Nat} {j k : Nat} (h : j < k) : ix (l.take k) j = ix l j := by
  unfold ix; rw [List.getD_eq_getElem?_getD, List.getD_eq_getElem?_getD, List.getElem?_take, if_pos h]
theorem digs_at_low (n k : Nat) : (digs n).getD k 0 < 10000 := at_low (low_digs n) k
/-- What a list of digits holds at a place. -/
theorem vd_at {l : List Nat} (h : low l) (k : Nat) : l.getD k 0 = vd l / 10000 ^ k % 10000 := by
  induction l generalizing k with
  | nil => simp [vd]
  | cons d l ih =>
    have hd : d < 10000 := h d (by simp)
    cases k with
    | zero => simp [vd]; omega
    | succ k =>
      rw [List.getD_cons_succ, ih (fun x hx => h x (List.mem_cons_of_mem _ hx)), vd, Nat.pow_succ, Nat.mul_comm (10000 ^ k), ← Nat.div_div_eq_div_mul]
      rw [show (d + 10000 * vd l) / 10000 = vd l by omega]
/-- A list is the digits of a number if it holds them place by place and is as long. -/
theorem list_of_at {l : List Nat} {n : Nat} (hl : (digs n).length ≤ l.length) (h : ∀ k, k < l.length → l.getD k 0 = n / 10000 ^ k % 10000) : trimL l = digs n := by
  have hlow : low l := by
    intro d hd
    obtain ⟨k, hk, rfl⟩ := List.getElem_of_mem hd
    have := h k hk
    rw [List.getD_eq_getElem?_getD, List.getElem?_eq_getElem hk] at this
    simp at this
    omega
  rw [trim_digs hlow]
  have e : ∀ (l : List Nat) (n : Nat), (∀ k, k < l.length → l.getD k 0 = n / 10000 ^ k % 10000) → vd l = n % 10000 ^ l.length := by
    intro l
    induction l with
    | nil => intro n _; simp [vd, Nat.mod_one]
    | cons d l ih =>
      intro n g
      have g0 := g 0 (by simp)
      simp at g0
      have := ih (n / 10000) (fun k hk => by
        have := g (k + 1) (by simp; omega)
        rw [List.getD_cons_succ, Nat.pow_succ, Nat.mul_comm, ← Nat.div_div_eq_div_mul] at this
        exact this)
      rw [vd, this, List.length_cons, Nat.pow_succ, Nat.mul_comm (10000 ^ l.length), Nat.mod_mul, g0]
  rw [e l n h, Nat.mod_eq_of_lt (Nat.lt_of_lt_of_le (digs_lt n) (Nat.pow_le_pow_right (by omega) hl))]

/-! ### Sums and differences, digit by digit -/
/-- What the first k digits of a and b leave: the sum's digits so far, and the carry. -/
theorem mod_succ (a k : Nat) : a % 10000 ^ (k + 1) = a % 10000 ^ k + 10000 ^ k * (a / 10000 ^ k % 10000) := by rw [Nat.pow_succ, Nat.mod_mul]
theorem ix_vd {l : List Nat} (h : low l) (k : Nat) : ix l k = vd l / 10000 ^ k % 10000 := vd_at h k
theorem plus_step {l1 l2 l : List Nat} {k c : Nat} (h1 : low l1) (h2 : low l2) (hl : l.length = k) (h : vd l + 10000 ^ k * c = vd l1 % 10000 ^ k + vd l2 % 10000 ^ k) :
    vd (l ++ [(ix l1 k + ix l2 k + c) % 10000]) + 10000 ^ (k + 1) * ((ix l1 k + ix l2 k + c) / 10000) = vd l1 % 10000 ^ (k + 1) + vd l2 % 10000 ^ (k + 1) := by
  rw [vd_snoc, hl, mod_succ, mod_succ, ix_vd h1, ix_vd h2, Nat.pow_succ, Nat.mul_assoc]
  generalize 10000 ^ k = P at *
  generalize vd l1 / P % 10000 = x at *
  generalize vd l2 / P % 10000 = y at *
  have e := Nat.mod_add_div (x + y + c) 10000
  have e2 : P * ((x + y + c) % 10000) + P * (10000 * ((x + y + c) / 10000)) = P * (x + y + c) := by rw [← Nat.mul_add, e]
  have e3 : P * (x + y + c) = P * x + P * y + P * c := by rw [Nat.mul_add, Nat.mul_add]
  omega
theorem plus_end {l1 l2 l : List Nat} {k : Nat} (h1 : low l1) (h2 : low l2) (g1 : l1.length ≤ k) (g2 : l2.length ≤ k) (h : vd l + 10000 ^ k * 0 = vd l1 % 10000 ^ k + vd l2 % 10000 ^ k) : vd l = vd l1 + vd l2 := by
  rw [Nat.mod_eq_of_lt (Nat.lt_of_lt_of_le (vd_lt h1) (Nat.pow_le_pow_right (by omega) g1)), Nat.mod_eq_of_lt (Nat.lt_of_lt_of_le (vd_lt h2) (Nat.pow_le_pow_right (by omega) g2))] at h
  omega
theorem low_snoc {l : List Nat} (h : low l) {d : Nat} (hd : d < 10000) : low (l ++ [d]) := by
  intro x hx
  rcases List.mem_append.1 hx with e | e
  · exact h x e
  · simp at e; omega
/-- A difference: behind k digits the digits so far and the borrow. -/
theorem minus_step_no {a b k c : Nat} {l : List Nat} (hl : l.length = k) (h : vd l + b % 10000 ^ k = a % 10000 ^ k + 10000 ^ k * c) (hc : ix (digs b) k + c ≤ ix (digs a) k) :
    vd (l ++ [ix (digs a) k - ix (digs b) k - c]) + b % 10000 ^ (k + 1) = a % 10000 ^ (k + 1) + 10000 ^ (k + 1) * 0 := by
  rw [vd_snoc, hl, mod_succ, mod_succ, ← ix_digs, ← ix_digs]
  generalize 10000 ^ k = P at *
  generalize ix (digs a) k = x at *
  generalize ix (digs b) k = y at *
  obtain ⟨z, rfl⟩ : ∃ z, x = y + c + z := ⟨x - y - c, by omega⟩
  rw [show y + c + z - y - c = z by omega, Nat.mul_add, Nat.mul_add]
  omega
theorem minus_step_yes {a b k c : Nat} {l : List Nat} (hl : l.length = k) (h : vd l + b % 10000 ^ k = a % 10000 ^ k + 10000 ^ k * c) (hc : ix (digs a) k < ix (digs b) k + c) (hx : ix (digs b) k + c ≤ ix (digs a) k + 10000) :
    vd (l ++ [ix (digs a) k + 10000 - ix (digs b) k - c]) + b % 10000 ^ (k + 1) = a % 10000 ^ (k + 1) + 10000 ^ (k + 1) * 1 := by
  rw [vd_snoc, hl, mod_succ, mod_succ, ← ix_digs, ← ix_digs, Nat.pow_succ]
  generalize 10000 ^ k = P at *
  generalize ix (digs a) k = x at *
  generalize ix (digs b) k = y at *
  obtain ⟨z, hz⟩ : ∃ z, x + 10000 = y + c + z := ⟨x + 10000 - y - c, by omega⟩
  rw [hz, show y + c + z - y - c = z by omega]
  have e2 : P * x + P * 10000 = P * y + P * c + P * z := by rw [← Nat.mul_add, hz, Nat.mul_add, Nat.mul_add]
  omega
theorem minus_end {a b k c : Nat} {l : List Nat} (hl : l.length = k) (hlow : low l) (hba : b ≤ a) (ha : (digs a).length = k) (h : vd l + b % 10000 ^ k = a % 10000 ^ k + 10000 ^ k * c) : vd l = a - b := by
  have h1 := digs_lt a
  rw [ha] at h1
  have h2 := vd_lt hlow
  rw [hl] at h2
  rw [Nat.mod_eq_of_lt h1, Nat.mod_eq_of_lt (by omega)] at h
  have : c = 0 := by
    rcases Nat.eq_zero_or_pos c with e | e
    · exact e
    · have : 10000 ^ k * 1 ≤ 10000 ^ k * c := Nat.mul_le_mul_left _ e
      omega
  subst this
  omega
end Go.Proofs.YtjighmmfaedgbaaDoor.RatM
