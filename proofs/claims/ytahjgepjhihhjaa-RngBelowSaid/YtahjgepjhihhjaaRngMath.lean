/-
  What package rng and its reference return, with no Go in sight: numbers taken from a stream, choosing below n, an index by its weight, a shuffled list.
-/
import Derived.Test.YtahjgepjhihhjaaHashMath
namespace Go.Proofs.Ytahjgepjhihhjaa.RngM
open Go.Proofs.Ytahjgepjhihhjaa.HashM

/-! ### Numbers that are taken until one is at most g -/
/-- The number that is taken last, and the count behind it: at most f + 1 numbers are taken. -/
def tk0 (k g : UInt64) : Nat → UInt64 → UInt64 × UInt64
  | 0, c => (mix k c, c + 1)
  | f + 1, c => if mix k c ≤ g then (mix k c, c + 1) else tk0 k g f (c + 1)
/-- The function is sealed: the kernel shall not unfold it. -/
theorem tk_ex : ∃ F : UInt64 → UInt64 → Nat → UInt64 → UInt64 × UInt64, (∀ k g c, F k g 0 c = (mix k c, c + 1)) ∧ (∀ k g c f, mix k c ≤ g → F k g f c = (mix k c, c + 1)) ∧ (∀ k g c f, ¬ mix k c ≤ g → F k g (f + 1) c = F k g f (c + 1)) := by
  refine ⟨tk0, fun k g c => rfl, fun k g c f h => ?_, fun k g c f h => ?_⟩
  · cases f with
    | zero => rfl
    | succ f => rw [tk0, if_pos h]
  · rw [tk0, if_neg h]
noncomputable def tk : UInt64 → UInt64 → Nat → UInt64 → UInt64 × UInt64 := Classical.choose tk_ex
theorem tk_zero (k g c : UInt64) : tk k g 0 c = (mix k c, c + 1) := (Classical.choose_spec tk_ex).1 k g c
theorem tk_stop (k g c : UInt64) (f : Nat) (h : mix k c ≤ g) : tk k g f c = (mix k c, c + 1) := (Classical.choose_spec tk_ex).2.1 k g c f h
theorem tk_go (k g c : UInt64) (f : Nat) (h : ¬ mix k c ≤ g) : tk k g (f + 1) c = tk k g f (c + 1) := (Classical.choose_spec tk_ex).2.2 k g c f h

/-! ### Choosing below n -/
/-- 2^64 modulo n. -/
def restN (n : Nat) : Nat := 18446744073709551616 % n
/-- The greatest number that is not rejected. -/
def lastN (n : Nat) : UInt64 := UInt64.ofNat (18446744073709551615 - restN n)
theorem restN_lt {n : Nat} (h : 0 < n) : restN n < n := Nat.mod_lt _ h
theorem lastN_nat {n : Nat} : (lastN n).toNat = 18446744073709551615 - restN n := by
  unfold lastN
  exact UInt64.toNat_ofNat_of_lt' (by show _ < 2 ^ 64; omega)
/-- The number chosen below n, and the count behind it. -/
noncomputable def tkX (k g c : UInt64) : UInt64 := (tk k g 63 c).1
noncomputable def tkC (k g c : UInt64) : UInt64 := (tk k g 63 c).2
noncomputable def belX (k c : UInt64) (n : Nat) : Nat := (tkX k (lastN n) c).toNat % n
noncomputable def belC (k c : UInt64) (n : Nat) : UInt64 := tkC k (lastN n) c
noncomputable def bel (k c : UInt64) (n : Nat) : Nat × UInt64 := (belX k c n, belC k c n)
theorem bel_lt (k c : UInt64) {n : Nat} (h : 0 < n) : (bel k c n).1 < n := Nat.mod_lt _ h
/-- How the code reckons the rest. -/
theorem rest_code {n : Nat} (h2 : n ≤ 4611686018427387904) : (18446744073709551616 - n) % n = restN n := by
  unfold restN
  conv => rhs; rw [show 18446744073709551616 = (18446744073709551616 - n) + n by omega, Nat.add_mod_right]
/-- How the reference does. -/
theorem rest_ref {n : Nat} : (18446744073709551615 % n + 1) % n = restN n := by
  unfold restN
  rw [Nat.mod_add_mod]
theorem all_le (x : UInt64) : x ≤ lastN 1 := by
  have e : lastN 1 = 18446744073709551615 := by decide +kernel
  rw [e, UInt64.le_iff_toNat_le]
  have := UInt64.toNat_lt x
  show _ ≤ 18446744073709551615
  omega
theorem belX_one (k c : UInt64) : belX k c 1 = 0 := Nat.mod_one _
theorem tk_all (k g c : UInt64) (f : Nat) (h : mix k c ≤ g) : (tk k g f c).2 = c + 1 := by rw [tk_stop k g c f h]
theorem belC_one (k c : UInt64) : belC k c 1 = c + 1 := tk_all k (lastN 1) c 63 (all_le _)

/-! ### An index by its weight -/
/-- The sum of the weights; 0 if one is negative or the sum is greater than m. -/
def okW (m : Int) : List Int → Int → Bool
  | [], _ => true
  | x :: l, s => if x < 0 ∨ m - s < x then false else okW m l (s + x)
def sumW : List Int → Int
  | [] => 0
  | x :: l => x + sumW l
/-- The index that x falls on. -/
def pk : List Int → Int → Nat
  | [], _ => 0
  | w :: l, x => if x < w then 0 else pk l (x - w) + 1
theorem okW_pos {m : Int} : ∀ (l : List Int) (s : Int), okW m l s = true → (∀ x ∈ l, 0 ≤ x) ∧ (s ≤ m → s + sumW l ≤ m)
  | [], s, _ => ⟨fun _ h => (by cases h), fun h => (by simpa [sumW] using h)⟩
  | x :: l, s, h => by
    unfold okW at h
    split at h
    · exact absurd h (by simp)
    · rename_i hn
      have ih := okW_pos l (s + x) h
      refine ⟨fun y hy => ?_, fun hs => ?_⟩
      · rcases List.mem_cons.1 hy with rfl | hy
        · omega
        · exact ih.1 y hy
      · have := ih.2 (by omega)
        unfold sumW; omega
theorem sumW_nonneg : ∀ (l : List Int), (∀ x ∈ l, 0 ≤ x) → 0 ≤ sumW l
  | [], _ => by simp [sumW]
  | x :: l, h => by
    have := sumW_nonneg l (fun y hy => h y (List.mem_cons_of_mem _ hy))
    have := h x (List.mem_cons_self ..)
    unfold sumW; omega
theorem pk_lt : ∀ (l : List Int) (x : Int), 0 ≤ x → x < sumW l → pk l x < l.length
  | [], x, h0, h => by simp [sumW] at h; omega
  | w :: l, x, h0, h => by
    unfold pk
    split
    · simp
    · have := pk_lt l (x - w) (by omega) (by unfold sumW at h; omega)
      simp; omega
/-- The weight of the index is greater than what is left of x. -/
theorem pk_pos : ∀ (l : List Int) (x : Int) (h0 : 0 ≤ x) (h : x < sumW l), 0 < l[pk l x]'(pk_lt l x h0 h)
  | [], x, h0, h => by exfalso; simp [sumW] at h; omega
  | w :: l, x, h0, h => by
    by_cases hx : x < w
    · have e : pk (w :: l) x = 0 := by unfold pk; rw [if_pos hx]
      simp only [e, List.getElem_cons_zero]; omega
    · have e : pk (w :: l) x = pk l (x - w) + 1 := by rw [pk, if_neg hx]
      simp only [e, List.getElem_cons_succ]
      exact pk_pos l (x - w) (by omega) (by unfold sumW at h; omega)
theorem pk_here {l : List Int} {w x : Int} (h : x < w) : pk (w :: l) x = 0 := by rw [pk, if_pos h]
theorem pk_next {l : List Int} {w x : Int} (h : ¬ x < w) : pk (w :: l) x = pk l (x - w) + 1 := by rw [pk, if_neg h]
theorem sumW_take_succ (l : List Int) (k : Nat) (h : k < l.length) : sumW (l.take (k + 1)) = sumW (l.take k) + l[k] := by
  induction l generalizing k with
  | nil => simp at h
  | cons a l ih =>
    cases k with
    | zero => simp [sumW]
    | succ k =>
      have := ih k (by simpa using h)
      simp only [List.take_succ_cons, sumW, List.getElem_cons_succ, this]
      omega
theorem drop_at (l : List Int) (k : Nat) (h : k < l.length) : l.drop k = l[k] :: l.drop (k + 1) := List.drop_eq_getElem_cons h
theorem okW_here {m : Int} {l : List Int} {x s : Int} (h : x < 0 ∨ m - s < x) : okW m (x :: l) s = false := by rw [okW, if_pos h]
theorem okW_next {m : Int} {l : List Int} {x s : Int} (h : ¬ (x < 0 ∨ m - s < x)) : okW m (x :: l) s = okW m l (s + x) := by rw [okW, if_neg h]
/-- The sum of the weights; 0 if one is negative or if they are too many. -/
def totW (m : Int) (l : List Int) : Int := if okW m l 0 then sumW l else 0
theorem totW_nonneg {m : Int} (l : List Int) : 0 ≤ totW m l := by
  unfold totW
  split
  · rename_i h; exact sumW_nonneg l (okW_pos l 0 h).1
  · exact Int.le_refl _
theorem totW_le {m : Int} (hm : 0 ≤ m) (l : List Int) : totW m l ≤ m := by
  unfold totW
  split
  · rename_i h; have := (okW_pos l 0 h).2 hm; omega
  · exact hm
theorem totW_sum {m : Int} {l : List Int} (h : totW m l ≠ 0) : totW m l = sumW l := by
  unfold totW at *
  split
  · rfl
  · rename_i hn; rw [if_neg hn] at h; exact absurd rfl h

/-! ### A shuffled list -/
def swp (f : Nat → Nat) (i j : Nat) : Nat → Nat := fun m => if m = j then f i else if m = i then f j else f m
/-- The list, and the count behind it: from i down to 1; B chooses. -/
def shf (B : UInt64 → Nat → Nat × UInt64) : Nat → (Nat → Nat) → UInt64 → (Nat → Nat) × UInt64
  | 0, f, c => (f, c)
  | i + 1, f, c => shf B i (swp f (i + 1) (B c (i + 2)).1) (B c (i + 2)).2
/-- The count alone. -/
def shc (B : UInt64 → Nat → Nat × UInt64) : Nat → UInt64 → UInt64
  | 0, c => c
  | i + 1, c => shc B i (B c (i + 2)).2
theorem shf_zero (B : UInt64 → Nat → Nat × UInt64) (f : Nat → Nat) (c : UInt64) : shf B 0 f c = (f, c) := rfl
theorem shf_next (B : UInt64 → Nat → Nat × UInt64) (i : Nat) (f : Nat → Nat) (c : UInt64) : shf B (i + 1) f c = shf B i (swp f (i + 1) (B c (i + 2)).1) (B c (i + 2)).2 := rfl
theorem shc_next (B : UInt64 → Nat → Nat × UInt64) (i : Nat) (c : UInt64) : shc B (i + 1) c = shc B i (B c (i + 2)).2 := rfl
theorem shf_count (B : UInt64 → Nat → Nat × UInt64) : ∀ (i : Nat) (f : Nat → Nat) (c : UInt64), (shf B i f c).2 = shc B i c
  | 0, _, _ => rfl
  | i + 1, f, c => by rw [shf_next, shc_next]; exact shf_count B i _ _
/-- Each number below n once. -/
def PermN (n : Nat) (f : Nat → Nat) : Prop := (∀ j, j < n → f j < n) ∧ ∀ a b, a < n → b < n → f a = f b → a = b
theorem perm_id (n : Nat) : PermN n id := ⟨fun _ h => h, fun _ _ _ _ h => h⟩
theorem perm_swp {n : Nat} {f : Nat → Nat} (h : PermN n f) {i j : Nat} (hi : i < n) (hj : j < n) : PermN n (swp f i j) := by
  refine ⟨fun m hm => ?_, fun a b ha hb e => ?_⟩
  · unfold swp
    split
    · exact h.1 _ hi
    · split
      · exact h.1 _ hj
      · exact h.1 _ hm
  · unfold swp at e
    have Q := h.2
    split at e
    · rename_i e1
      split at e
      · rename_i e2; omega
      · split at e
        · rename_i e2 e3; have := Q _ _ hi hj e; omega
        · rename_i e2 e3; have := Q _ _ hi hb e; omega
    · split at e
      · rename_i e1 e2
        split at e
        · rename_i e3; have := Q _ _ hj hi e; omega
        · split at e
          · omega
          · rename_i e3 e4; have := Q _ _ hj hb e; omega
      · rename_i e1 e2
        split at e
        · rename_i e3; have := Q _ _ ha hi e; omega
        · split at e
          · rename_i e3 e4; have := Q _ _ ha hj e; omega
          · exact Q _ _ ha hb e
theorem perm_shf {B : UInt64 → Nat → Nat × UInt64} (hB : ∀ c n, 0 < n → (B c n).1 < n) {n : Nat} : ∀ (i : Nat) (f : Nat → Nat) (c : UInt64), i < n → PermN n f → PermN n (shf B i f c).1
  | 0, _, _, _, h => h
  | i + 1, f, c, hi, h => by
    rw [shf_next]
    exact perm_shf hB i _ _ (by omega) (perm_swp h hi (Nat.lt_of_lt_of_le (hB c _ (by omega)) (by omega)))
theorem perm_shuf {B : UInt64 → Nat → Nat × UInt64} (hB : ∀ c n, 0 < n → (B c n).1 < n) (c : UInt64) (n : Nat) : PermN n (shf B (n - 1) id c).1 := by
  by_cases h : n = 0
  · subst h; exact ⟨fun j hj => by omega, fun a b ha => by omega⟩
  · exact perm_shf hB _ _ _ (by omega) (perm_id n)

/-! ### Numbers of different counts -/
theorem mix_inj {k a b : UInt64} (h : mix k a = mix k b) : a = b := by
  have e := undo_b k a
  rw [h, undo_b] at e
  exact e.symm
end Go.Proofs.Ytahjgepjhihhjaa.RngM
