/-
  What package pack's functions return, as plain functions of lists of bytes; and what the document says of them.
-/
import Derived.Test.YtjighmmfaedgbaaDoorNumText
namespace Go.Proofs.YtjighmmfaedgbaaDoor.PackM
open Go Go.RowKit Go.Proofs.YtjighmmfaedgbaaDoor.NumM

def textP (l : List UInt8) : List UInt8 := Lib.itoa l.length ++ 58 :: l
def numP (n : Int) : List UInt8 := Lib.itoa n ++ [59]
def listP (xs : List (List UInt8)) : List UInt8 := numP xs.length ++ (xs.map textP).flatten

/-- The value of a numeral with its mark behind it, and the error. -/
def unitL (num : List UInt8) : List UInt8 → UInt8 → Int × Int
  | [], _ => (0, 6)
  | c :: _, m => if c = m then parseS num else (0, 5)
def sgn (r : List UInt8) : Nat := if r.head? = some 45 then 1 else 0
def dgs (r : List UInt8) : Nat := (r.takeWhile dgt).length
/-- How many bytes the signed numeral has. -/
def nLen (r : List UInt8) : Nat := sgn r + dgs (r.drop (sgn r))
/-- A number, how many bytes it takes, and the error. -/
def takeL (num rest : List UInt8) (m : UInt8) : Int × Nat × Int :=
  if (unitL num rest m).2 = 0 then ((unitL num rest m).1, num.length + 1, 0) else (0, 0, (unitL num rest m).2)
def numL (r : List UInt8) : Int × Nat × Int := takeL (r.take (nLen r)) (r.drop (nLen r)) 59
def sizeL (r : List UInt8) : Int × Nat × Int := takeL (r.take (dgs r)) (r.drop (dgs r)) 58
def textL (r : List UInt8) : List UInt8 × Nat × Int :=
  if (sizeL r).2.2 = 0 then
    if ((r.drop (sizeL r).2.1).length : Int) < (sizeL r).1 then ([], 0, 6)
    else ((r.drop (sizeL r).2.1).take (sizeL r).1.toNat, (sizeL r).2.1 + (sizeL r).1.toNat, 0)
  else ([], 0, (sizeL r).2.2)
/-- n texts, one behind the other, behind those that were taken already. -/
def textsA : Nat → List UInt8 → List (List UInt8) → Nat → List (List UInt8) × Nat × Int
  | 0, _, acc, c => (acc, c, 0)
  | n + 1, r, acc, c => if (textL r).2.2 = 0 then textsA n (r.drop (textL r).2.1) (acc ++ [(textL r).1]) (c + (textL r).2.1) else ([], 0, (textL r).2.2)
def listL (r : List UInt8) (most : Int) (c : Nat) : List (List UInt8) × Nat × Int :=
  if (numL r).2.2 = 0 then
    if (numL r).1 < 0 then ([], 0, 5)
    else if most < (numL r).1 then ([], 0, 2)
    else textsA (numL r).1.toNat (r.drop (numL r).2.1) [] (c + (numL r).2.1)
  else ([], 0, (numL r).2.2)

/-! Numerals. -/
theorem dgt_45 : dgt 45 = false := by decide
theorem dgt_58 : dgt 58 = false := by decide
theorem dgt_59 : dgt 59 = false := by decide
theorem tw_all {l : List UInt8} (h : l.all dgt = true) (c : UInt8) (hc : dgt c = false) (q : List UInt8) : (l ++ c :: q).takeWhile dgt = l := by
  induction l with
  | nil => simp [hc]
  | cons a r ih =>
    simp only [List.all_cons, Bool.and_eq_true] at h
    simp [h.1, ih h.2]
theorem tw_all' {l : List UInt8} (h : l.all dgt = true) : l.takeWhile dgt = l := by
  induction l with
  | nil => simp
  | cons a r ih =>
    simp only [List.all_cons, Bool.and_eq_true] at h
    simp [h.1, ih h.2]
theorem take_dgs (r : List UInt8) : r.take (dgs r) = r.takeWhile dgt := by
  unfold dgs
  induction r with
  | nil => rfl
  | cons a r ih =>
    by_cases h : dgt a = true
    · simp [h, ih]
    · simp [h]
theorem all_dgs (r : List UInt8) : (r.take (dgs r)).all dgt = true := by
  rw [take_dgs]
  induction r with
  | nil => rfl
  | cons a r ih =>
    by_cases h : dgt a = true
    · simp [h] at ih ⊢
    · simp [h]
theorem dgs_le (r : List UInt8) : dgs r ≤ r.length := by
  unfold dgs
  induction r with
  | nil => simp
  | cons a r ih =>
    by_cases h : dgt a = true
    · simp [h]; exact ih
    · simp [h]
theorem sgn_le (r : List UInt8) : sgn r ≤ r.length := by
  unfold sgn
  cases r with
  | nil => simp
  | cons a r => split <;> simp
theorem nLen_le (r : List UInt8) : nLen r ≤ r.length := by
  have h1 := dgs_le (r.drop (sgn r))
  have h2 := sgn_le r
  rw [List.length_drop] at h1
  unfold nLen; omega
theorem sgn_not {r : List UInt8} (h : ¬ r.head? = some 45) : sgn r = 0 := by unfold sgn; rw [if_neg h]
theorem sgn_yes {r : List UInt8} (h : r.head? = some 45) : sgn r = 1 := by unfold sgn; rw [if_pos h]
theorem itoa_nat (n : Nat) : Lib.itoa (n : Int) = Lib.decDigits n := by
  unfold Lib.itoa
  rw [if_neg (by omega)]
  congr 1
theorem dec_all (n : Nat) : (Lib.decDigits n).all dgt = true := (dec_spec n).1
theorem nLen_itoa (n : Int) (c : UInt8) (hc : dgt c = false) (q : List UInt8) : nLen (Lib.itoa n ++ c :: q) = (Lib.itoa n).length := by
  unfold Lib.itoa
  by_cases h : n < 0
  · rw [if_pos h]
    unfold nLen
    rw [sgn_yes (by simp)]
    simp only [List.cons_append, List.drop_succ_cons, List.drop_zero, List.length_cons]
    unfold dgs
    rw [tw_all (dec_all _) c hc]; omega
  · rw [if_neg h]
    have e : ¬ (Lib.decDigits n.toNat ++ c :: q).head? = some 45 := by
      have h5 := (dec_spec n.toNat).2.2.2.2
      have h2 := (dec_spec n.toNat).2.1
      cases hd : Lib.decDigits n.toNat with
      | nil => exact absurd hd h2
      | cons a r => rw [hd] at h5; simpa using h5
    unfold nLen
    rw [sgn_not e]
    simp only [List.drop_zero]
    unfold dgs
    rw [tw_all (dec_all _) c hc]; omega
theorem parse_itoa {n : Int} (h0 : -9223372036854775808 ≤ n) (h1 : n ≤ 9223372036854775807) : parseS (Lib.itoa n) = (n, 0) := by
  obtain ⟨hd, hv⟩ := itoa_dec n
  rw [parseS, hd, if_pos rfl, hv, lim_ok (okI_iff.2 ⟨h0, h1⟩)]
theorem parse_ok {l : List UInt8} (h : (parseS l).2 = 0) : Lib.itoa (parseS l).1 = l ∧ -9223372036854775808 ≤ (parseS l).1 ∧ (parseS l).1 ≤ 9223372036854775807 := by
  unfold parseS at h ⊢
  by_cases hd : isDec l = true
  · rw [if_pos hd] at h ⊢
    by_cases hk : okI (valS l) = true
    · rw [lim_ok hk]
      exact ⟨itoa_back hd, okI_iff.1 hk⟩
    · rw [lim_no (by simpa using hk)] at h
      cases h
  · rw [if_neg hd] at h
    cases h
theorem parse_err (l : List UInt8) (h : ¬ (parseS l).2 = 0) : parseS l = (0, (parseS l).2) := by
  unfold parseS at h ⊢
  by_cases hd : isDec l = true
  · rw [if_pos hd] at h ⊢
    by_cases hk : okI (valS l) = true
    · rw [lim_ok hk] at h; exact absurd rfl h
    · rw [lim_no (by simpa using hk)]
  · rw [if_neg hd]

/-! P3.5: what was packed is taken back. -/
theorem take_left {a b : List UInt8} : (a ++ b).take a.length = a := by simp
theorem unit_mark (num q : List UInt8) (m : UInt8) : unitL num (m :: q) m = parseS num := by
  show (if m = m then parseS num else (0, 5)) = _
  rw [if_pos rfl]
theorem unit_cons (num q : List UInt8) (c m : UInt8) : unitL num (c :: q) m = if c = m then parseS num else (0, 5) := rfl
theorem numL_back {n : Int} (h0 : -9223372036854775808 ≤ n) (h1 : n ≤ 9223372036854775807) (q : List UInt8) : numL (numP n ++ q) = (n, (numP n).length, 0) := by
  have e : numP n ++ q = Lib.itoa n ++ 59 :: q := by unfold numP; simp
  unfold numL
  rw [e, nLen_itoa n 59 dgt_59 q, take_left, List.drop_left]
  unfold takeL
  rw [unit_mark, parse_itoa h0 h1]
  simp [numP]
theorem sizeL_back {n : Nat} (h1 : n ≤ 9223372036854775807) (q : List UInt8) : sizeL (Lib.itoa n ++ 58 :: q) = ((n : Int), (Lib.itoa n).length + 1, 0) := by
  have hd : dgs (Lib.itoa (n : Int) ++ 58 :: q) = (Lib.itoa (n : Int)).length := by
    unfold dgs
    rw [itoa_nat, tw_all (dec_all _) 58 dgt_58]
  unfold sizeL
  rw [hd, take_left, List.drop_left]
  unfold takeL
  rw [unit_mark, parse_itoa (by omega) (by omega)]
  simp
theorem drop_one {a : List UInt8} {c : UInt8} {q : List UInt8} : (a ++ c :: q).drop (a.length + 1) = q := by simp [List.drop_append]
theorem textL_back {t : List UInt8} (h1 : t.length ≤ 9223372036854775807) (q : List UInt8) : textL (textP t ++ q) = (t, (textP t).length, 0) := by
  have e : textP t ++ q = Lib.itoa t.length ++ 58 :: (t ++ q) := by unfold textP; simp
  unfold textL
  rw [e, sizeL_back h1]
  simp only [if_pos, drop_one]
  rw [if_neg (by rw [List.length_append]; omega), Int.toNat_natCast, take_left]
  simp [textP]; omega
theorem textsA_back : ∀ (xs : List (List UInt8)) (q : List UInt8) (acc : List (List UInt8)) (c : Nat), (∀ x ∈ xs, x.length ≤ 9223372036854775807) →
    textsA xs.length ((xs.map textP).flatten ++ q) acc c = (acc ++ xs, c + ((xs.map textP).flatten).length, 0)
  | [], q, acc, c, _ => by simp [textsA]
  | x :: r, q, acc, c, h => by
    have e : ((x :: r).map textP).flatten ++ q = textP x ++ ((r.map textP).flatten ++ q) := by simp
    have b := textL_back (h x (by simp)) ((r.map textP).flatten ++ q)
    rw [e, List.length_cons, textsA, b]
    simp only [if_pos, List.drop_left]
    rw [textsA_back r q _ _ (fun y hy => h y (by simp [hy]))]
    simp; omega
theorem listL_back {xs : List (List UInt8)} (h : ∀ x ∈ xs, x.length ≤ 9223372036854775807) (hn : xs.length ≤ 9223372036854775807) (q : List UInt8) (c : Nat) {most : Int} (hm : (xs.length : Int) ≤ most) :
    listL (listP xs ++ q) most c = (xs, c + (listP xs).length, 0) := by
  have e : listP xs ++ q = numP xs.length ++ ((xs.map textP).flatten ++ q) := by unfold listP; simp
  unfold listL
  rw [e, numL_back (by omega) (by omega)]
  simp only [if_pos]
  rw [if_neg (by omega), if_neg (by omega), List.drop_left, Int.toNat_natCast, textsA_back xs q _ _ h]
  simp [listP]; omega

/-! P3.6: nothing else is accepted. -/
theorem takeL_ok {num rest : List UInt8} {m : UInt8} (h : (takeL num rest m).2.2 = 0) :
    num ++ rest = Lib.itoa (takeL num rest m).1 ++ m :: rest.tail ∧ (takeL num rest m).2.1 = (Lib.itoa (takeL num rest m).1).length + 1 ∧ num = Lib.itoa (takeL num rest m).1 ∧
      -9223372036854775808 ≤ (takeL num rest m).1 ∧ (takeL num rest m).1 ≤ 9223372036854775807 := by
  unfold takeL at h ⊢
  by_cases h0 : (unitL num rest m).2 = 0
  · rw [if_pos h0]
    cases rest with
    | nil => cases h0
    | cons c r =>
      rw [unit_cons] at h0 ⊢
      by_cases hc : c = m
      · rw [if_pos hc] at h0 ⊢
        obtain ⟨p1, p2, p3⟩ := parse_ok h0
        exact ⟨by rw [p1, hc]; rfl, by rw [p1], p1.symm, p2, p3⟩
      · rw [if_neg hc] at h0
        cases h0
  · rw [if_neg h0] at h
    exact absurd h h0
theorem numL_ok {r : List UInt8} (h : (numL r).2.2 = 0) : ∃ q, r = numP (numL r).1 ++ q ∧ (numL r).2.1 = (numP (numL r).1).length ∧ -9223372036854775808 ≤ (numL r).1 ∧ (numL r).1 ≤ 9223372036854775807 := by
  obtain ⟨a, b, _, c, d⟩ := takeL_ok h
  rw [List.take_append_drop] at a
  exact ⟨(r.drop (nLen r)).tail, by rw [show numL r = takeL _ _ _ from rfl]; refine a.trans ?_; simp [numP], by rw [show numL r = takeL _ _ _ from rfl, b]; simp [numP], c, d⟩
theorem sizeL_ok {r : List UInt8} (h : (sizeL r).2.2 = 0) : ∃ (n : Nat) (q : List UInt8), r = Lib.itoa n ++ 58 :: q ∧ (sizeL r).1 = n ∧ (sizeL r).2.1 = (Lib.itoa n).length + 1 ∧ n ≤ 9223372036854775807 := by
  obtain ⟨a, b, c, d, e⟩ := takeL_ok h
  rw [List.take_append_drop] at a
  have hall := all_dgs r
  rw [c] at hall
  have hn : 0 ≤ (takeL (r.take (dgs r)) (r.drop (dgs r)) 58).1 := by
    apply Classical.byContradiction
    intro hx
    unfold Lib.itoa at hall
    rw [if_pos (by omega)] at hall
    simp [dgt_45] at hall
  obtain ⟨n, hn'⟩ := Int.eq_ofNat_of_zero_le hn
  rw [hn'] at a b c e
  exact ⟨n, (r.drop (dgs r)).tail, a, hn', b, by omega⟩
theorem textL_ok {r : List UInt8} (h : (textL r).2.2 = 0) : ∃ q, r = textP (textL r).1 ++ q ∧ (textL r).2.1 = (textP (textL r).1).length := by
  by_cases h0 : (sizeL r).2.2 = 0
  · obtain ⟨n, q, e, h1, h2, h3⟩ := sizeL_ok h0
    unfold textL at h ⊢
    rw [if_pos h0] at h ⊢
    rw [h1, h2, e, drop_one] at h ⊢
    by_cases hq : (q.length : Int) < n
    · rw [if_pos hq] at h
      cases h
    · rw [if_neg hq, Int.toNat_natCast]
      have hl : (q.take n).length = n := by rw [List.length_take]; omega
      refine ⟨q.drop n, ?_, ?_⟩
      · unfold textP
        rw [hl]
        simp
      · unfold textP
        simp only [List.length_append, List.length_cons, hl]
        omega
  · unfold textL at h
    rw [if_neg h0] at h
    exact absurd h h0
theorem textP_two (t : List UInt8) : 2 ≤ (textP t).length := by
  unfold textP
  have h := (dec_spec t.length).2.1
  rw [itoa_nat]
  have := List.length_pos_iff.2 h
  simp only [List.length_append, List.length_cons]; omega
theorem textsA_ok : ∀ (n : Nat) (r : List UInt8) (acc : List (List UInt8)) (c : Nat), (textsA n r acc c).2.2 = 0 →
    ∃ xs q, (textsA n r acc c).1 = acc ++ xs ∧ xs.length = n ∧ r = (xs.map textP).flatten ++ q ∧ (textsA n r acc c).2.1 = c + ((xs.map textP).flatten).length
  | 0, r, acc, c, _ => ⟨[], r, by simp [textsA], rfl, by simp, by simp [textsA]⟩
  | n + 1, r, acc, c, h => by
    rw [textsA] at h ⊢
    by_cases h0 : (textL r).2.2 = 0
    · rw [if_pos h0] at h ⊢
      obtain ⟨q, e, l⟩ := textL_ok h0
      obtain ⟨xs, q', e1, e2, e3, e4⟩ := textsA_ok n _ _ _ h
      have hd : r.drop (textL r).2.1 = q := by rw [l]; conv => lhs; arg 2; rw [e]
                                               exact List.drop_left
      refine ⟨(textL r).1 :: xs, q', by rw [e1]; simp, by simp [e2], ?_, ?_⟩
      · conv => lhs; rw [e]
        rw [hd] at e3
        rw [e3]
        simp
      · rw [e4, l]
        simp; omega
    · rw [if_neg h0] at h
      exact absurd h h0
theorem listL_ok {r : List UInt8} {most : Int} {c : Nat} (h : (listL r most c).2.2 = 0) :
    ∃ q, r = listP (listL r most c).1 ++ q ∧ (listL r most c).2.1 = c + (listP (listL r most c).1).length ∧ ((listL r most c).1.length : Int) ≤ most := by
  unfold listL at h ⊢
  by_cases h0 : (numL r).2.2 = 0
  · rw [if_pos h0] at h ⊢
    by_cases h1 : (numL r).1 < 0
    · rw [if_pos h1] at h; cases h
    · rw [if_neg h1] at h ⊢
      by_cases h2 : most < (numL r).1
      · rw [if_pos h2] at h; cases h
      · rw [if_neg h2] at h ⊢
        obtain ⟨q, e, l, _, _⟩ := numL_ok h0
        obtain ⟨xs, q', e1, e2, e3, e4⟩ := textsA_ok _ _ _ _ h
        have hd : r.drop (numL r).2.1 = q := by rw [l]; conv => lhs; arg 2; rw [e]
                                                exact List.drop_left
        have hn : (xs.length : Int) = (numL r).1 := by omega
        rw [hd] at e3
        rw [e1, e4]
        simp only [List.nil_append]
        refine ⟨q', ?_, ?_, by omega⟩
        · conv => lhs; rw [e]
          rw [e3]
          unfold listP
          rw [hn]
          simp
        · rw [l]
          unfold listP
          rw [hn, List.length_append]; omega
  · rw [if_neg h0] at h
    exact absurd h h0

/-! P3.7: a proper beginning is cut off. -/
theorem takeL_nil (num : List UInt8) (m : UInt8) : takeL num [] m = (0, 0, 6) := rfl
theorem nLen_cut (n : Int) (k : Nat) : nLen ((Lib.itoa n).take k) = ((Lib.itoa n).take k).length := by
  by_cases h : n < 0
  · have e : Lib.itoa n = 45 :: Lib.decDigits n.natAbs := by unfold Lib.itoa; rw [if_pos h]
    rw [e]
    cases k with
    | zero => rfl
    | succ k =>
      rw [List.take_succ_cons]
      unfold nLen
      rw [sgn_yes (by simp)]
      simp only [List.drop_succ_cons, List.drop_zero, List.length_cons]
      unfold dgs
      rw [tw_all' (by
        have ha := dec_all n.natAbs
        rw [List.all_eq_true] at ha ⊢
        exact fun x hx => ha x (List.mem_of_mem_take hx))]
      omega
  · have e : Lib.itoa n = Lib.decDigits n.toNat := by unfold Lib.itoa; rw [if_neg h]
    rw [e]
    have ha : ((Lib.decDigits n.toNat).take k).all dgt = true := by
      have ha := dec_all n.toNat
      rw [List.all_eq_true] at ha ⊢
      exact fun x hx => ha x (List.mem_of_mem_take hx)
    have hs : ¬ ((Lib.decDigits n.toNat).take k).head? = some 45 := by
      cases hd : (Lib.decDigits n.toNat).take k with
      | nil => simp
      | cons a r =>
        rw [hd] at ha
        simp only [List.all_cons, Bool.and_eq_true] at ha
        intro hx
        simp only [List.head?_cons, Option.some.injEq] at hx
        rw [hx, dgt_45] at ha
        cases ha.1
    unfold nLen
    rw [sgn_not hs, List.drop_zero]
    unfold dgs
    rw [tw_all' ha]; omega
theorem numL_cut (n : Int) {k : Nat} (hk : k < (numP n).length) : numL ((numP n).take k) = (0, 0, 6) := by
  have hl : k ≤ (Lib.itoa n).length := by unfold numP at hk; simp at hk; omega
  have e : (numP n).take k = (Lib.itoa n).take k := by unfold numP; rw [List.take_append_of_le_length hl]
  unfold numL
  rw [e, nLen_cut, List.drop_length]
  exact takeL_nil _ _
theorem textL_cut {t : List UInt8} (h1 : t.length ≤ 9223372036854775807) {k : Nat} (hk : k < (textP t).length) : (textL ((textP t).take k)).2.2 = 6 := by
  by_cases hl : k ≤ (Lib.itoa t.length).length
  · have e : (textP t).take k = (Lib.itoa t.length).take k := by unfold textP; rw [List.take_append_of_le_length hl]
    have ha : ((Lib.itoa t.length).take k).all dgt = true := by
      rw [itoa_nat]
      have ha := dec_all t.length
      rw [List.all_eq_true] at ha ⊢
      exact fun x hx => ha x (List.mem_of_mem_take hx)
    have hs : sizeL ((Lib.itoa t.length).take k) = (0, 0, 6) := by
      unfold sizeL
      rw [show dgs ((Lib.itoa t.length).take k) = ((Lib.itoa t.length).take k).length by unfold dgs; rw [tw_all' ha], List.drop_length]
      exact takeL_nil _ _
    rw [e]
    unfold textL
    rw [hs, if_neg (by decide)]
  · obtain ⟨j, rfl⟩ : ∃ j, k = (Lib.itoa t.length).length + 1 + j := ⟨k - (Lib.itoa t.length).length - 1, by omega⟩
    have hj : j < t.length := by unfold textP at hk; simp at hk; omega
    have e : (textP t).take ((Lib.itoa t.length).length + 1 + j) = Lib.itoa t.length ++ 58 :: t.take j := by
      unfold textP
      rw [List.take_append, show (Lib.itoa (t.length : Int)).length + 1 + j - (Lib.itoa (t.length : Int)).length = j + 1 by omega, List.take_succ_cons, List.take_of_length_le (by omega)]
    rw [e]
    unfold textL
    rw [sizeL_back h1, if_pos rfl, drop_one, if_pos (by rw [List.length_take]; omega)]
theorem textL_none (r : List UInt8) (h : ¬ (textL r).2.2 = 0) : textL r = ([], 0, (textL r).2.2) := by
  unfold textL at h ⊢
  by_cases h0 : (sizeL r).2.2 = 0
  · rw [if_pos h0] at h ⊢
    by_cases h1 : ((r.drop (sizeL r).2.1).length : Int) < (sizeL r).1
    · rw [if_pos h1]
    · rw [if_neg h1] at h; exact absurd rfl h
  · rw [if_neg h0]
theorem textsA_cut : ∀ (xs : List (List UInt8)) (acc : List (List UInt8)) (c k : Nat), (∀ x ∈ xs, x.length ≤ 9223372036854775807) → k < ((xs.map textP).flatten).length →
    (textsA xs.length (((xs.map textP).flatten).take k) acc c).2.2 = 6
  | [], acc, c, k, _, hk => by simp at hk
  | x :: r, acc, c, k, h, hk => by
    have e : ((x :: r).map textP).flatten = textP x ++ (r.map textP).flatten := by simp
    rw [e] at hk ⊢
    rw [List.length_cons, textsA]
    by_cases hl : k < (textP x).length
    · rw [List.take_append_of_le_length (by omega)]
      have hc := textL_cut (h x (by simp)) hl
      rw [hc, if_neg (by decide)]
    · obtain ⟨j, rfl⟩ : ∃ j, k = (textP x).length + j := ⟨k - (textP x).length, by omega⟩
      rw [List.take_append, show (textP x).length + j - (textP x).length = j by omega, List.take_of_length_le (by omega), textL_back (h x (by simp))]
      simp only [if_pos, List.drop_left]
      exact textsA_cut r _ _ j (fun y hy => h y (by simp [hy])) (by rw [List.length_append] at hk; omega)
theorem listL_cut {xs : List (List UInt8)} (h : ∀ x ∈ xs, x.length ≤ 9223372036854775807) (hn : xs.length ≤ 9223372036854775807) {most : Int} (hm : (xs.length : Int) ≤ most) (c : Nat) {k : Nat} (hk : k < (listP xs).length) :
    (listL ((listP xs).take k) most c).2.2 = 6 := by
  unfold listP at hk ⊢
  unfold listL
  by_cases hl : k < (numP xs.length).length
  · rw [List.take_append_of_le_length (by omega), numL_cut _ hl, if_neg (by decide)]
  · obtain ⟨j, rfl⟩ : ∃ j, k = (numP xs.length).length + j := ⟨k - (numP xs.length).length, by omega⟩
    rw [List.take_append, show (numP xs.length).length + j - (numP xs.length).length = j by omega, List.take_of_length_le (by omega), numL_back (by omega) (by omega)]
    simp only [if_pos]
    rw [if_neg (by omega), if_neg (by omega), List.drop_left, Int.toNat_natCast]
    exact textsA_cut xs _ _ j h (by rw [List.length_append] at hk; omega)
end Go.Proofs.YtjighmmfaedgbaaDoor.PackM
