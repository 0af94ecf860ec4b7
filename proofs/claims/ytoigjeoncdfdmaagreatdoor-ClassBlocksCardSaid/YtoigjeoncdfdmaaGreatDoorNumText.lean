/-
  Plain facts about decimal forms: which lists of bytes are one, what number they spell, and that the numeral of a number spells it. No program in sight.
-/
import Derived.Test.YtoigjeoncdfdmaaGreatDoorNumMath
import Derived.Lib.ItoaNum
import Derived.Lib.AtoiAll
import Derived.Lib.Strings
namespace Go.Proofs.YtoigjeoncdfdmaaGreatDoor.NumM
open Go Go.RowKit

def dgt (c : UInt8) : Bool := decide (48 ≤ c.toNat) && decide (c.toNat ≤ 57)
def minus (l : List UInt8) : Bool := l.head? == some 45
def tl (l : List UInt8) : List UInt8 := if minus l then l.tail else l
def vl (acc : Nat) (l : List UInt8) : Nat := l.foldl (fun a c => a * 10 + (c.toNat - 48)) acc
/-- The list is the decimal form of an integer. -/
def isDec (l : List UInt8) : Bool := (tl l).all dgt && !(tl l).isEmpty && !((tl l).head? == some 48 && !(l == [48]))
def valS (l : List UInt8) : Int := if minus l then -(vl 0 (tl l) : Int) else (vl 0 (tl l) : Int)
def parseS (l : List UInt8) : Int × Int := if isDec l then lim (valS l) else (0, 5)

theorem trim_eq (l : List UInt8) : Lib.trimPrefix l [45] = tl l := by
  unfold Lib.trimPrefix tl minus Lib.hasPrefix
  cases l with
  | nil => rfl
  | cons c r =>
    by_cases h : c = 45
    · subst h; simp
    · simp [h, show ¬ 45 = c from fun x => h x.symm]
theorem vl_nil (acc : Nat) : vl acc [] = acc := List.foldl_nil
theorem vl_cons (acc : Nat) (c : UInt8) (r : List UInt8) : vl acc (c :: r) = vl (acc * 10 + (c.toNat - 48)) r := List.foldl_cons ..
theorem vl_snoc (l : List UInt8) (acc : Nat) (c : UInt8) : vl acc (l ++ [c]) = vl acc l * 10 + (c.toNat - 48) := by
  induction l generalizing acc with
  | nil =>
    rw [List.nil_append, vl_cons]
    simp only [vl_nil]
  | cons d r ih =>
    rw [List.cons_append]
    simp only [vl_cons]
    rw [ih]
theorem vl_ge (l : List UInt8) (acc : Nat) : acc ≤ vl acc l := by
  induction l generalizing acc with
  | nil => exact Nat.le_refl _
  | cons d r ih =>
    have := ih (acc * 10 + (d.toNat - 48))
    rw [vl_cons]; omega
theorem vl_append (a b : List UInt8) (acc : Nat) : vl acc (a ++ b) = vl (vl acc a) b := List.foldl_append ..
theorem vl_take_le (l : List UInt8) (k : Nat) : vl 0 (l.take k) ≤ vl 0 l := by
  have e : vl 0 l = vl (vl 0 (l.take k)) (l.drop k) := by rw [← vl_append, List.take_append_drop]
  rw [e]; exact vl_ge _ _
theorem dgt_iff {c : UInt8} : dgt c = true ↔ 48 ≤ c.toNat ∧ c.toNat ≤ 57 := by simp [dgt]
theorem tl_length (l : List UInt8) : (tl l).length ≤ l.length := by
  unfold tl
  split
  · rw [List.length_tail]; omega
  · exact Nat.le_refl _
theorem dgt_at {d : ByteArray} {l : List UInt8} (hd : d.data.toList = tl l) (h : (tl l).all dgt = true) {k : Nat} (hk : k < d.size) :
    48 ≤ d[k].toNat ∧ d[k].toNat ≤ 57 := by
  rw [← hd] at h
  have hm : d[k] ∈ d.data.toList := by
    have : d.data.toList[k]'(by simpa using hk) = d[k] := rfl
    rw [← this]; exact List.getElem_mem _
  exact dgt_iff.1 (List.all_eq_true.1 h _ hm)
theorem head_at {d : ByteArray} {l : List UInt8} (hd : d.data.toList = tl l) (hk : 0 < d.size) : (tl l).head? = some d[0] := by
  rw [← hd]
  have h : 0 < d.data.toList.length := by simpa using hk
  rw [List.head?_eq_getElem?, List.getElem?_eq_getElem h]; rfl
theorem str_no {s : ByteArray} (h : s.data.toList = [48]) : (!s.toList == [48]) = false := by rw [Lib.toList_data, h]; rfl
theorem str_yes {s : ByteArray} (h : s.data.toList ≠ [48]) : (!s.toList == [48]) = true := by rw [Lib.toList_data]; simpa using h
/-- A list that passes every test is a decimal form. -/
theorem isDec_of {l : List UInt8} (h1 : (tl l).all dgt = true) (h2 : tl l ≠ []) (h3 : ¬ ((tl l).head? = some 48 ∧ l ≠ [48])) : isDec l = true := by
  unfold isDec
  rw [h1]
  by_cases a : (tl l).head? = some 48
  · have b : l = [48] := by
      apply Classical.byContradiction
      intro x; exact h3 ⟨a, x⟩
    subst b
    decide
  · simp [h2, a]

/-! What the library's Atoi makes of a decimal form -/
theorem parseUint10_eq (l : List UInt8) : ∀ acc : Nat, l.all dgt = true → acc < 18446744073709551616 →
    Lib.parseUint10 acc l = if vl acc l < 18446744073709551616 then .ok (vl acc l) else .range := by
  induction l with
  | nil => intro acc _ ha; rw [vl_nil, if_pos ha]; rfl
  | cons c r ih =>
    intro acc hd ha
    simp only [List.all_cons, Bool.and_eq_true] at hd
    have hc := dgt_iff.1 hd.1
    simp only [Lib.parseUint10, hc, and_self, if_true]
    rw [vl_cons]
    have hg := vl_ge r (acc * 10 + (c.toNat - 48))
    by_cases h1 : 1844674407370955162 ≤ acc
    · rw [if_pos h1, if_neg (by omega)]
    · rw [if_neg h1]
      by_cases h2 : 18446744073709551616 ≤ acc * 10 + (c.toNat - 48)
      · rw [if_pos h2, if_neg (by omega)]
      · rw [if_neg h2]; exact ih _ hd.2 (by omega)
theorem isDec_parts {l : List UInt8} (h : isDec l = true) : (tl l).all dgt = true ∧ tl l ≠ [] ∧ ((tl l).head? = some 48 → l = [48]) := by
  unfold isDec at h
  simp only [Bool.and_eq_true, Bool.not_eq_true', List.isEmpty_eq_false_iff, Bool.and_eq_false_iff, beq_eq_false_iff_ne, ne_eq, Bool.not_eq_false', beq_iff_eq] at h
  exact ⟨h.1.1, h.1.2, fun x => by rcases h.2 with y | y; exact absurd x y; exact y⟩
theorem parseMag_eq {t : List UInt8} (h : t.all dgt = true) (hn : t ≠ []) :
    Lib.parseMag t = if vl 0 t < 18446744073709551616 then .ok (vl 0 t) else .range := by
  unfold Lib.parseMag
  rw [if_neg hn]; exact parseUint10_eq t 0 h (by decide)
theorem atoi_eq {l : List UInt8} (h : isDec l = true) : Lib.atoiAll l = if okI (valS l) then .ok (valS l) else .range := by
  obtain ⟨hd, hn, _⟩ := isDec_parts h
  cases l with
  | nil => exact absurd rfl hn
  | cons c r =>
    by_cases hm : c = 45
    · subst hm
      have e : tl (45 :: r) = r := rfl
      have m : minus (45 :: r) = true := rfl
      rw [e] at hd hn
      simp only [Lib.atoiAll, valS, m, e, if_true]
      rw [if_pos (by right; rfl), parseMag_eq hd hn]
      by_cases h1 : vl 0 r < 18446744073709551616
      · rw [if_pos h1]
        by_cases h2 : 9223372036854775808 < vl 0 r
        · rw [show okI (-(vl 0 r : Int)) = false from okI_no.2 (by omega)]
          simp [h2]
        · rw [show okI (-(vl 0 r : Int)) = true from okI_iff.2 (by omega)]
          simp [h2]
      · rw [if_neg h1, show okI (-(vl 0 r : Int)) = false from okI_no.2 (by omega)]
        rfl
    · have e : tl (c :: r) = c :: r := by simp [tl, minus, hm]
      have m : minus (c :: r) = false := by simp [minus, hm]
      have hc : ¬ c.toNat = 45 := fun x => hm (by rw [← UInt8.toNat_inj, x]; rfl)
      rw [e] at hd hn
      have hc2 := (dgt_iff.1 (by simp only [List.all_cons, Bool.and_eq_true] at hd; exact hd.1 : dgt c = true)).1
      simp only [Lib.atoiAll, valS, m, e, Bool.false_eq_true, if_false]
      rw [if_neg (by omega), parseMag_eq hd hn]
      by_cases h1 : vl 0 (c :: r) < 18446744073709551616
      · rw [if_pos h1]
        by_cases h2 : 9223372036854775808 ≤ vl 0 (c :: r)
        · rw [show okI ((vl 0 (c :: r) : Nat) : Int) = false from okI_no.2 (by omega)]
          simp [h2, hc]
        · rw [show okI ((vl 0 (c :: r) : Nat) : Int) = true from okI_iff.2 (by omega)]
          simp [h2, hc]
      · rw [if_neg h1, show okI ((vl 0 (c :: r) : Nat) : Int) = false from okI_no.2 (by omega)]
        rfl

/-! The numeral of a number -/
theorem dec_small {u : Nat} (h : u < 10) : Lib.decDigits u = [UInt8.ofNat (48 + u)] := by rw [Lib.decDigits, dif_pos h]
theorem dec_big {u : Nat} (h : ¬ u < 10) : Lib.decDigits u = Lib.decDigits (u / 10) ++ [UInt8.ofNat (48 + u % 10)] := by rw [Lib.decDigits, dif_neg h]
theorem dig_toNat {u : Nat} (h : u < 10) : (UInt8.ofNat (48 + u)).toNat = 48 + u := by
  rw [UInt8.toNat_ofNat']; omega
theorem dec_spec (u : Nat) : (Lib.decDigits u).all dgt = true ∧ Lib.decDigits u ≠ [] ∧ vl 0 (Lib.decDigits u) = u ∧ ((Lib.decDigits u).head? = some 48 → u = 0) ∧ (Lib.decDigits u).head? ≠ some 45 := by
  induction u using Nat.strongRecOn with
  | _ u ih =>
    by_cases h : u < 10
    · rw [dec_small h]
      refine ⟨by simp [dgt]; omega, by simp, by rw [vl_cons, vl_nil, dig_toNat h]; omega, ?_, ?_⟩
      · intro x
        have x' : UInt8.ofNat (48 + u) = 48 := by simpa using x
        have := dig_toNat h
        rw [x'] at this
        have e : (48 : UInt8).toNat = 48 := rfl
        omega
      · intro x
        have x' : UInt8.ofNat (48 + u) = 45 := by simpa using x
        have := dig_toNat h
        rw [x'] at this
        have e : (45 : UInt8).toNat = 45 := rfl
        omega
    · obtain ⟨i1, i2, i3, i4, i5⟩ := ih (u / 10) (by omega)
      have hm : u % 10 < 10 := by omega
      have hh : (Lib.decDigits (u / 10) ++ [UInt8.ofNat (48 + u % 10)]).head? = (Lib.decDigits (u / 10)).head? := by
        cases g : Lib.decDigits (u / 10) with
        | nil => exact absurd g i2
        | cons a b => rfl
      rw [dec_big h]
      refine ⟨?_, by simp, ?_, ?_, ?_⟩
      · rw [List.all_append, i1]; simp [dgt]; omega
      · rw [vl_snoc, i3, dig_toNat hm]; omega
      · rw [hh]; intro x; have := i4 x; omega
      · rw [hh]; exact i5
theorem dec_back (t : List UInt8) (h : t.all dgt = true) (hn : t ≠ []) (h0 : t.head? = some 48 → t = [48]) : Lib.decDigits (vl 0 t) = t ∧ (t.head? ≠ some 48 → 1 ≤ vl 0 t) := by
  obtain ⟨n, hl⟩ : ∃ n, t.length = n := ⟨_, rfl⟩
  induction n generalizing t with
  | zero => exact absurd (List.length_eq_zero_iff.1 hl) hn
  | succ n ih =>
    obtain ⟨r, c, rfl⟩ : ∃ r c, t = r ++ [c] := ⟨t.dropLast, t.getLast hn, (List.dropLast_concat_getLast hn).symm⟩
    rw [List.all_append, Bool.and_eq_true] at h
    have hc := dgt_iff.1 (by simpa using h.2 : dgt c = true)
    have ec : UInt8.ofNat (48 + (c.toNat - 48)) = c := by rw [show 48 + (c.toNat - 48) = c.toNat by omega]; exact UInt8.ofNat_toNat
    rw [vl_snoc]
    by_cases hr : r = []
    · subst hr
      rw [List.nil_append, vl_nil, show 0 * 10 + (c.toNat - 48) = c.toNat - 48 by omega, dec_small (by omega), ec]
      refine ⟨rfl, fun x => ?_⟩
      have : ¬ c.toNat = 48 := fun y => x (by rw [List.head?_cons, show c = 48 from by rw [← UInt8.toNat_inj, y]; rfl])
      omega
    · have hh : (r ++ [c]).head? = r.head? := by
        cases r with
        | nil => exact absurd rfl hr
        | cons a b => rfl
      have hx : r.head? ≠ some 48 := by
        intro x
        have := h0 (by rw [hh]; exact x)
        have e := congrArg List.length this
        simp at e
        exact hr e
      obtain ⟨e1, e2⟩ := ih r h.1 hr (fun x => absurd x hx) (by simp at hl; exact hl)
      have e3 := e2 hx
      refine ⟨?_, fun _ => by omega⟩
      rw [dec_big (by omega), show (vl 0 r * 10 + (c.toNat - 48)) / 10 = vl 0 r by omega, show (vl 0 r * 10 + (c.toNat - 48)) % 10 = c.toNat - 48 by omega, e1, ec]
theorem itoa_dec (n : Int) : isDec (Lib.itoa n) = true ∧ valS (Lib.itoa n) = n := by
  unfold Lib.itoa
  by_cases h : n < 0
  · obtain ⟨i1, i2, i3, i4, i5⟩ := dec_spec n.natAbs
    rw [if_pos h]
    have e : tl (45 :: Lib.decDigits n.natAbs) = Lib.decDigits n.natAbs := rfl
    have m : minus (45 :: Lib.decDigits n.natAbs) = true := rfl
    have z : ((Lib.decDigits n.natAbs).head? == some 48) = false := by
      rw [beq_eq_false_iff_ne]; intro x; have := i4 x; omega
    refine ⟨?_, ?_⟩
    · rw [isDec, e, i1, z]; simp [i2]
    · rw [valS, m, e, i3]; simp; omega
  · obtain ⟨i1, i2, i3, i4, i5⟩ := dec_spec n.toNat
    rw [if_neg h]
    have m : minus (Lib.decDigits n.toNat) = false := by rw [minus, beq_eq_false_iff_ne]; exact i5
    have e : tl (Lib.decDigits n.toNat) = Lib.decDigits n.toNat := by rw [tl, m]; rfl
    refine ⟨?_, ?_⟩
    · rw [isDec, e, i1]
      by_cases z : (Lib.decDigits n.toNat).head? = some 48
      · have d0 : Lib.decDigits 0 = [48] := dec_small (by decide)
        rw [i4 z, d0]; decide
      · have z' : ((Lib.decDigits n.toNat).head? == some 48) = false := by rw [beq_eq_false_iff_ne]; exact z
        rw [z']; simp [i2]
    · rw [valS, m, e, i3]; simp; omega
theorem itoa_back {l : List UInt8} (h : isDec l = true) : Lib.itoa (valS l) = l := by
  obtain ⟨hd, hn, h0⟩ := isDec_parts h
  by_cases m : minus l = true
  · cases l with
    | nil => cases m
    | cons c r =>
      have hc : c = 45 := by simpa [minus] using m
      subst hc
      have e : tl (45 :: r) = r := rfl
      rw [e] at hd hn h0
      have hx : r.head? ≠ some 48 := fun x => by have := h0 x; cases this
      obtain ⟨b1, b2⟩ := dec_back r hd hn (fun x => absurd x hx)
      have b3 := b2 hx
      rw [valS, m, e, if_pos rfl, Lib.itoa, if_pos (by omega), show (-(vl 0 r : Int)).natAbs = vl 0 r by omega, b1]
  · have m' : minus l = false := by simpa using m
    have e : tl l = l := by rw [tl, m']; rfl
    rw [e] at hd hn h0
    obtain ⟨b1, _⟩ := dec_back l hd hn h0
    rw [valS, m', e, if_neg (by decide), Lib.itoa, if_neg (by omega), show ((vl 0 l : Nat) : Int).toNat = vl 0 l by omega, b1]
end Go.Proofs.YtoigjeoncdfdmaaGreatDoor.NumM
