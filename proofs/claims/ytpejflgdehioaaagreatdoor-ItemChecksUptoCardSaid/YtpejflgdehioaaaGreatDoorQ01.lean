/-
  Laws that the card uses; no conditions beside those that each states (NumMath NumText LexMath LexBest ClMath WordMath ExMath ExVal ExFold ItMath LexSmall ExLexSpan LexParse ExLexFour).
-/
import Derived.IntWalk
import Derived.Laws.Bits64
import Derived.Lib.ItoaNum
import Derived.Lib.AtoiAll
import Derived.Lib.Strings
import Derived.Lib.Tables
import Derived.Laws.BitsAllLaws
import Derived.Test.YtpejflgdehioaaaGreatDoorRows
import Derived.WalkKit
import Derived.Outline
import Derived.WalkSpells
import Derived.Deep.DeepFit
import Derived.Lib.Hide
import Derived.LoopTactic
import Derived.Deep.QuietTactic
import Derived.BigQuiet
import Derived.Lib.MapLaws
import Derived.Laws.RangeAny
import Derived.Test.YtpejflgdehioaaaGreatDoorNumShelf
import Derived.Lib.SmallJoins
import Derived.WalkSmall
namespace Go.Proofs.YtpejflgdehioaaaGreatDoor.NumM
open Go Go.RowKit
def okI (x : Int) : Bool := decide (-9223372036854775808 ≤ x ∧ x ≤ 9223372036854775807)
def lim (x : Int) : Int × Int := if okI x then (x, 0) else (0, 3)
theorem okI_iff {x : Int} : okI x = true ↔ -9223372036854775808 ≤ x ∧ x ≤ 9223372036854775807 := by simp [okI]
theorem okI_no {x : Int} : okI x = false ↔ x < -9223372036854775808 ∨ 9223372036854775807 < x := by
  unfold okI; rw [decide_eq_false_iff_not]; omega
theorem lim_ok {x : Int} (h : okI x = true) : lim x = (x, 0) := by simp [lim, h]
theorem lim_no {x : Int} (h : okI x = false) : lim x = (0, 3) := by simp [lim, h]
def dgt (c : UInt8) : Bool := decide (48 ≤ c.toNat) && decide (c.toNat ≤ 57)
def minus (l : List UInt8) : Bool := l.head? == some 45
def tl (l : List UInt8) : List UInt8 := if minus l then l.tail else l
def vl (acc : Nat) (l : List UInt8) : Nat := l.foldl (fun a c => a * 10 + (c.toNat - 48)) acc
def isDec (l : List UInt8) : Bool := (tl l).all dgt && !(tl l).isEmpty && !((tl l).head? == some 48 && !(l == [48]))
def valS (l : List UInt8) : Int := if minus l then -(vl 0 (tl l) : Int) else (vl 0 (tl l) : Int)
def parseS (l : List UInt8) : Int × Int := if isDec l then lim (valS l) else (0, 5)
theorem trim_eq (l : List UInt8) : Lib.trimPrefix l [45] = tl l := by
  unfold Lib.trimPrefix tl minus Lib.hasPrefix; cases l with
  | nil => rfl
  | cons c r =>
    by_cases h : c = 45
    · subst h; simp
    · simp [h, show ¬ 45 = c from fun x => h x.symm]
theorem vl_nil (acc : Nat) : vl acc [] = acc := List.foldl_nil
theorem vl_cons (acc : Nat) (c : UInt8) (r : List UInt8) : vl acc (c :: r) = vl (acc * 10 + (c.toNat - 48)) r := List.foldl_cons ..
theorem vl_ge (l : List UInt8) (acc : Nat) : acc ≤ vl acc l := by
  induction l generalizing acc with
  | nil => exact Nat.le_refl _
  | cons d r ih =>
    have := ih (acc * 10 + (d.toNat - 48)); rw [vl_cons]; omega
theorem dgt_iff {c : UInt8} : dgt c = true ↔ 48 ≤ c.toNat ∧ c.toNat ≤ 57 := by simp [dgt]
theorem tl_length (l : List UInt8) : (tl l).length ≤ l.length := by
  unfold tl; split
  · rw [List.length_tail]; omega
  · exact Nat.le_refl _
theorem dgt_at {d : ByteArray} {l : List UInt8} (hd : d.data.toList = tl l) (h : (tl l).all dgt = true) {k : Nat} (hk : k < d.size) :
    48 ≤ d[k].toNat ∧ d[k].toNat ≤ 57 := by
  rw [← hd] at h; have hm : d[k] ∈ d.data.toList := by
    have : d.data.toList[k]'(by simpa using hk) = d[k] := rfl; rw [← this]; exact List.getElem_mem _
  exact dgt_iff.1 (List.all_eq_true.1 h _ hm)
theorem head_at {d : ByteArray} {l : List UInt8} (hd : d.data.toList = tl l) (hk : 0 < d.size) : (tl l).head? = some d[0] := by
  rw [← hd]; have h : 0 < d.data.toList.length := (by simpa using hk); rw [List.head?_eq_getElem?, List.getElem?_eq_getElem h]; rfl
theorem str_no {s : ByteArray} (h : s.data.toList = [48]) : (!s.toList == [48]) = false := by rw [Lib.toList_data, h]; rfl
theorem str_yes {s : ByteArray} (h : s.data.toList ≠ [48]) : (!s.toList == [48]) = true := by rw [Lib.toList_data]; simpa using h
theorem isDec_of {l : List UInt8} (h1 : (tl l).all dgt = true) (h2 : tl l ≠ []) (h3 : ¬ ((tl l).head? = some 48 ∧ l ≠ [48])) : isDec l = true := by
  unfold isDec; rw [h1]; by_cases a : (tl l).head? = some 48
  · have b : l = [48] := by
      apply Classical.byContradiction; intro x; exact h3 ⟨a, x⟩
    subst b; decide
  · simp [h2, a]
theorem parseUint10_eq (l : List UInt8) : ∀ acc : Nat, l.all dgt = true → acc < 18446744073709551616 →
    Lib.parseUint10 acc l = if vl acc l < 18446744073709551616 then .ok (vl acc l) else .range := by
  induction l with
  | nil => intro acc _ ha; rw [vl_nil, if_pos ha]; rfl
  | cons c r ih =>
    intro acc hd ha; simp only [List.all_cons, Bool.and_eq_true] at hd; have hc := dgt_iff.1 hd.1; simp only [Lib.parseUint10, hc, and_self, if_true]; rw [vl_cons]; have hg := vl_ge r (acc * 10 + (c.toNat - 48)); by_cases h1 : 1844674407370955162 ≤ acc
    · rw [if_pos h1, if_neg (by omega)]
    · rw [if_neg h1]; by_cases h2 : 18446744073709551616 ≤ acc * 10 + (c.toNat - 48)
      · rw [if_pos h2, if_neg (by omega)]
      · rw [if_neg h2]; exact ih _ hd.2 (by omega)
theorem isDec_parts {l : List UInt8} (h : isDec l = true) : (tl l).all dgt = true ∧ tl l ≠ [] ∧ ((tl l).head? = some 48 → l = [48]) := by
  unfold isDec at h; simp only [Bool.and_eq_true, Bool.not_eq_true', List.isEmpty_eq_false_iff, Bool.and_eq_false_iff, beq_eq_false_iff_ne, ne_eq, Bool.not_eq_false', beq_iff_eq] at h; exact ⟨h.1.1, h.1.2, fun x => by rcases h.2 with y | y; exact absurd x y; exact y⟩
theorem parseMag_eq {t : List UInt8} (h : t.all dgt = true) (hn : t ≠ []) :
    Lib.parseMag t = if vl 0 t < 18446744073709551616 then .ok (vl 0 t) else .range := by
  unfold Lib.parseMag; rw [if_neg hn]; exact parseUint10_eq t 0 h (by decide)
theorem atoi_eq {l : List UInt8} (h : isDec l = true) : Lib.atoiAll l = if okI (valS l) then .ok (valS l) else .range := by
  obtain ⟨hd, hn, _⟩ := isDec_parts h; cases l with
  | nil => exact absurd rfl hn
  | cons c r =>
    by_cases hm : c = 45
    · subst hm; have e : tl (45 :: r) = r := rfl; have m : minus (45 :: r) = true := rfl; rw [e] at hd hn; simp only [Lib.atoiAll, valS, m, e, if_true]; rw [if_pos (by right; rfl), parseMag_eq hd hn]; by_cases h1 : vl 0 r < 18446744073709551616
      · rw [if_pos h1]; by_cases h2 : 9223372036854775808 < vl 0 r
        · rw [show okI (-(vl 0 r : Int)) = false from okI_no.2 (by omega)]; simp [h2]
        · rw [show okI (-(vl 0 r : Int)) = true from okI_iff.2 (by omega)]; simp [h2]
      · rw [if_neg h1, show okI (-(vl 0 r : Int)) = false from okI_no.2 (by omega)]; rfl
    · have e : tl (c :: r) = c :: r := (by simp [tl, minus, hm]); have m : minus (c :: r) = false := (by simp [minus, hm]); have hc : ¬ c.toNat = 45 := (fun x => hm (by rw [← UInt8.toNat_inj, x]; rfl)); rw [e] at hd hn; have hc2 := (dgt_iff.1 (by simp only [List.all_cons, Bool.and_eq_true] at hd; exact hd.1 : dgt c = true)).1; simp only [Lib.atoiAll, valS, m, e, Bool.false_eq_true, if_false]; rw [if_neg (by omega), parseMag_eq hd hn]; by_cases h1 : vl 0 (c :: r) < 18446744073709551616
      · rw [if_pos h1]; by_cases h2 : 9223372036854775808 ≤ vl 0 (c :: r)
        · rw [show okI ((vl 0 (c :: r) : Nat) : Int) = false from okI_no.2 (by omega)]; simp [h2, hc]
        · rw [show okI ((vl 0 (c :: r) : Nat) : Int) = true from okI_iff.2 (by omega)]; simp [h2, hc]
      · rw [if_neg h1, show okI ((vl 0 (c :: r) : Nat) : Int) = false from okI_no.2 (by omega)]; rfl
end Go.Proofs.YtpejflgdehioaaaGreatDoor.NumM
namespace Go.Proofs.YtpejflgdehioaaaGreatDoor.LexM
open Go Go.RowKit Go.Proofs.YtpejflgdehioaaaGreatDoor.NumM
def sml (c : UInt8) : Bool := decide (97 ≤ c.toNat) && decide (c.toNat ≤ 122)
def capl (c : UInt8) : Bool := decide (65 ≤ c.toNat) && decide (c.toNat ≤ 90)
def wrd (c : UInt8) : Bool := sml c || dgt c || capl c || decide (c.toNat = 95)
def kws : List (List UInt8) := [[99, 108, 97, 115, 115], [101, 120, 116, 101, 110, 100, 115], [114, 97, 110, 100], [114, 97, 110, 100, 99], [115, 116, 97, 116, 101], [99, 111, 110, 115, 116, 114, 97, 105, 110, 116], [115, 111, 102, 116], [100, 105, 115, 116], [105, 102], [101, 108, 115, 101], [101, 97, 99, 104], [105, 110], [115, 111, 108, 118, 101], [98, 101, 102, 111, 114, 101], [105, 110, 115, 105, 100, 101], [112, 114, 111, 112, 101, 114, 116, 121], [115, 101, 113], [97, 110, 100], [111, 114], [110, 111, 116], [115, 101, 116], [104, 111, 108, 100], [112, 108, 97, 105, 110], [114, 101, 112, 101, 97, 116]]
def mks : List (List UInt8) := [[40], [41], [123], [125], [91], [93], [44], [59], [58], [46, 46], [63], [61], [61, 61], [33, 61], [60], [60, 61], [62], [62, 61], [60, 60], [62, 62], [43], [45], [42], [38], [124], [94], [126], [33], [38, 38], [124, 124], [45, 62], [61, 62], [58, 61], [58, 47], [35, 35], [64]]
def isKw (l : List UInt8) : Bool := decide (l ∈ kws)
def isMk (l : List UInt8) : Bool := decide (l ∈ mks)
structure Tk where
  kind : Int
  n : Int
  text : List UInt8
  line : Int
def zTk : Tk := ⟨0, 0, [], 0⟩
def Tk.at (t : Tk) (ln : Int) : Tk := ⟨t.kind, t.n, t.text, ln⟩
def wordS (l : List UInt8) : List UInt8 := l.takeWhile wrd
def markT (l : List UInt8) : Tk × Int := if isMk (l.take 2) then (⟨4, 0, l.take 2, 0⟩, 0) else if isMk (l.take 1) then (⟨4, 0, l.take 1, 0⟩, 0) else (zTk, 5)
def nameT (t : List UInt8) : Tk × Int := if 16 < t.length then (zTk, 2) else (⟨if isKw t then 2 else 1, 0, t, 0⟩, 0)
def numT (t : List UInt8) : Tk × Int := if (parseS t).2 = 0 then (if 2147483647 < (parseS t).1 then (zTk, 3) else (⟨3, (parseS t).1, t, 0⟩, 0)) else (zTk, (parseS t).2)
def firstS (l : List UInt8) : Tk × Int := match wordS l with | [] => markT l | c :: r => if sml c then nameT (c :: r) else if dgt c then numT (c :: r) else (zTk, 5)
theorem mk_facts : ∀ m ∈ mks, m ≠ [] ∧ m.length ≤ 2 ∧ m.head? ≠ some 47 ∧ (m.all fun c => !wrd c && decide (c.toNat ≠ 10 ∧ c.toNat ≠ 32 ∧ c.toNat ≠ 9 ∧ c.toNat < 128)) = true := by decide
theorem mk_byte {m : List UInt8} (h : isMk m = true) {c : UInt8} (hc : c ∈ m) : wrd c = false ∧ c.toNat ≠ 10 ∧ c.toNat ≠ 32 ∧ c.toNat ≠ 9 ∧ c.toNat < 128 := by
  have := List.all_eq_true.1 (mk_facts m (of_decide_eq_true h)).2.2.2 c hc
  simpa using this
theorem wrd_facts {c : UInt8} (h : wrd c = true) : c.toNat ≠ 10 ∧ c.toNat ≠ 32 ∧ c.toNat ≠ 9 ∧ c.toNat < 128 ∧ c.toNat ≠ 47 := by
  simp [wrd, sml, dgt, capl] at h; omega
theorem mk_nil : isMk [] = false := by decide
theorem first_mark {l : List UInt8} (h : wordS l = []) : firstS l = markT l := by unfold firstS; rw [h]
theorem first_word {l : List UInt8} {c : UInt8} {r : List UInt8} (h : wordS l = c :: r) : firstS l = if sml c then nameT (c :: r) else if dgt c then numT (c :: r) else (zTk, 5) := by unfold firstS; rw [h]
theorem word_pre (l : List UInt8) : wordS l = l.take (wordS l).length := by
  unfold wordS; have h : l.takeWhile wrd <+: l := List.takeWhile_prefix wrd; exact (List.prefix_iff_eq_take.1 h)
theorem word_all (l : List UInt8) : ∀ c ∈ wordS l, wrd c = true := fun c hc => by
  have := List.all_takeWhile (p := wrd) (l := l); exact List.all_eq_true.1 this c hc
structure Good (l : List UInt8) (t : Tk) : Prop where
  ne : t.text ≠ []
  pre : t.text = l.take t.text.length
  byte : ∀ c ∈ t.text, c.toNat ≠ 10 ∧ c.toNat ≠ 32 ∧ c.toNat ≠ 9 ∧ c.toNat < 128
  head : t.text.head? ≠ some 47
  line : t.line = 0
theorem good_mark {l : List UInt8} (h : (markT l).2 = 0) : Good l (markT l).1 := by
  unfold markT at h ⊢; by_cases h2 : isMk (l.take 2) = true
  · rw [if_pos h2]; have f := mk_facts _ (of_decide_eq_true h2); refine ⟨f.1, ?_, fun c hc => (mk_byte h2 hc).2, f.2.2.1, rfl⟩; rw [List.length_take]; by_cases hl : 2 ≤ l.length
    · rw [Nat.min_eq_left hl]
    · rw [Nat.min_eq_right (by omega), List.take_of_length_le (by omega), List.take_of_length_le (by omega)]
  · rw [if_neg h2] at h ⊢; by_cases h1 : isMk (l.take 1) = true
    · rw [if_pos h1]; have f := mk_facts _ (of_decide_eq_true h1); refine ⟨f.1, ?_, fun c hc => (mk_byte h1 hc).2, f.2.2.1, rfl⟩; rw [List.length_take]; by_cases hl : 1 ≤ l.length
      · rw [Nat.min_eq_left hl]
      · rw [Nat.min_eq_right (by omega), List.take_of_length_le (by omega), List.take_of_length_le (by omega)]
    · rw [if_neg h1] at h; simp at h
theorem good_word {l : List UInt8} {c : UInt8} {r : List UInt8} (h : wordS l = c :: r) {t : Tk} (ht : t.text = c :: r) (hl : t.line = 0) : Good l t := by
  have hall := word_all l; have hp := word_pre l; rw [h] at hall hp; refine ⟨by rw [ht]; simp, by rw [ht]; exact hp, fun d hd => ?_, ?_, hl⟩
  · rw [ht] at hd; have := wrd_facts (hall d hd); exact ⟨this.1, this.2.1, this.2.2.1, this.2.2.2.1⟩
  · rw [ht]; intro e; have e2 : c = 47 := (by simpa using e); exact (wrd_facts (hall c (by simp))).2.2.2.2 (by rw [e2]; rfl)
theorem first_good {l : List UInt8} (h : (firstS l).2 = 0) : Good l (firstS l).1 := by
  cases hw : wordS l with
  | nil =>
    rw [first_mark hw] at h ⊢; exact good_mark h
  | cons c r =>
    have e := first_word hw; rw [e] at h ⊢; by_cases hs : sml c = true
    · rw [if_pos hs] at h ⊢; unfold nameT at h ⊢; by_cases h16 : 16 < (c :: r).length
      · rw [if_pos h16] at h; simp at h
      · rw [if_neg h16]; exact good_word hw rfl rfl
    · rw [if_neg hs] at h ⊢; by_cases hd : dgt c = true
      · rw [if_pos hd] at h ⊢; unfold numT at h ⊢; by_cases hp : (parseS (c :: r)).2 = 0
        · rw [if_pos hp] at h ⊢; by_cases hm : 2147483647 < (parseS (c :: r)).1
          · rw [if_pos hm] at h; simp at h
          · rw [if_neg hm]; exact good_word hw rfl rfl
        · rw [if_neg hp] at h; exact absurd h hp
      · rw [if_neg hd] at h; simp at h
def validS (t : Tk) : Bool := decide ((firstS t.text).2 = 0) && (decide ((firstS t.text).1.kind = t.kind) && (decide ((firstS t.text).1.n = t.n) && decide ((firstS t.text).1.text = t.text)))
theorem valid_iff {t : Tk} : validS t = true ↔ firstS t.text = (⟨t.kind, t.n, t.text, 0⟩, 0) := by
  constructor
  · intro h; simp only [validS, Bool.and_eq_true, decide_eq_true_eq] at h; obtain ⟨h0, h1, h2, h3⟩ := h; have h4 := (first_good h0).line; rcases hf : firstS t.text with ⟨⟨k, n, x, ln⟩, e⟩
    rw [hf] at h0 h1 h2 h3 h4; simp only at h0 h1 h2 h3 h4; rw [h0, h1, h2, h3, h4]
  · intro h; simp [validS, h]
def nmB (l : List UInt8) : Bool := match l with | [] => false | c :: r => decide (r.length + 1 ≤ 16) && (sml c && (!isKw (c :: r) && (c :: r).all wrd))
theorem wordS_all {l : List UInt8} (h : l.all wrd = true) : wordS l = l := by
  have := List.takeWhile_append_of_pos (p := wrd) (l₁ := l) (l₂ := []) (fun a ha => List.all_eq_true.1 h a ha)
  simpa [wordS] using this
theorem name_iff (l : List UInt8) : validS ⟨1, 0, l, 0⟩ = nmB l := by
  rw [Bool.eq_iff_iff, valid_iff]; constructor
  · intro h; have h0 : (firstS l).2 = 0 := (by show (firstS (Tk.text ⟨1, 0, l, 0⟩)).2 = 0; rw [h]); have hf : firstS l = (⟨1, 0, l, 0⟩, 0) := h; rcases hw : wordS l with _ | ⟨c, r⟩
    · rw [first_mark hw] at hf; unfold markT at hf; split at hf
      · simp at hf
      · split at hf
        · simp at hf
        · simp at hf
    · rw [first_word hw] at hf; by_cases hs : sml c = true
      · rw [if_pos hs] at hf; unfold nameT at hf; by_cases h16 : 16 < (c :: r).length
        · rw [if_pos h16] at hf; simp at hf
        · rw [if_neg h16] at hf; have ht : c :: r = l := (by have := congrArg (fun x => x.1.text) hf; exact this); have hk : isKw (c :: r) = false := by
            have := congrArg (fun x => x.1.kind) hf; cases e : isKw (c :: r)
            · rfl
            · rw [e] at this; simp at this
          have hall : (c :: r).all wrd = true := by
            rw [List.all_eq_true]; intro x hx; rw [← hw] at hx; exact word_all l x hx
          rw [← ht]; simp only [nmB, hs, hk, hall, Bool.not_false, Bool.and_true]; simp at h16 ⊢; omega
      · rw [if_neg hs] at hf; unfold numT at hf; split at hf
        · split at hf
          · split at hf
            · simp at hf
            · simp at hf
          · have := congrArg (fun x => x.1.kind) hf; simp [zTk] at this
        · simp at hf
  · intro h; cases l with
    | nil => cases h
    | cons c r =>
      simp only [nmB, Bool.and_eq_true, decide_eq_true_eq, Bool.not_eq_true'] at h; obtain ⟨h1, h2, h3, h4⟩ := h; have hw : wordS (c :: r) = c :: r := wordS_all h4; show firstS (c :: r) = _; rw [first_word hw, if_pos h2, nameT, if_neg (by rw [List.length_cons]; omega), h3]; rfl
end Go.Proofs.YtpejflgdehioaaaGreatDoor.LexM
namespace Go.Proofs.YtpejflgdehioaaaGreatDoor.ClM
open Go Go.Proofs.YtpejflgdehioaaaGreatDoor.LexM
inductive Kd where
  | exprs | weights | items | strs | fields | blocks | classes
inductive Lf where
  | n (i : Int)
  | s (t : ByteArray)
  | b (v : Bool)
  | row (k : Kd) (l : List (List Lf))
inductive Sh where
  | n | s | b | r (k : Kd)
def shp : Kd → List Sh
  | .exprs => [.n, .n, .s, .r .exprs]
  | .weights => [.n, .n, .n, .b]
  | .items => [.n, .n, .n, .s, .r .exprs, .s, .s, .r .weights, .r .items, .r .items, .r .strs, .r .strs]
  | .strs => [.s]
  | .fields => [.s, .n, .n, .n, .n]
  | .blocks => [.s, .r .items]
  | .classes => [.s, .s, .r .fields, .r .blocks]
def byt : Kd → Nat
  | .exprs => 56
  | .weights => 32
  | .items => 216
  | .strs => 16
  | .fields => 48
  | .blocks => 40
  | .classes => 80
structure Fld where
  nm : ByteArray
  wd : Int
  sz : Int
  md : Int
  ini : Int
structure Bk where
  nm : ByteArray
  it : List (List Lf)
structure Cl where
  nm : ByteArray
  par : ByteArray
  fs : List Fld
  bs : List Bk
def Fld.lf (f : Fld) : List Lf := [.s f.nm, .n f.wd, .n f.sz, .n f.md, .n f.ini]
def Bk.lf (b : Bk) : List Lf := [.s b.nm, .row .items b.it]
def Cl.lf (c : Cl) : List Lf := [.s c.nm, .s c.par, .row .fields (c.fs.map Fld.lf), .row .blocks (c.bs.map Bk.lf)]
def emp : ByteArray := ⟨#[]⟩
def zCl : Cl := ⟨emp, emp, [], []⟩
def same (a b : ByteArray) : Bool := a.data.toList == b.data.toList
theorem same_iff {a b : ByteArray} : same a b = true ↔ a = b := by
  unfold same; rw [beq_iff_eq]; constructor
  · intro h; obtain ⟨⟨x⟩⟩ := a; obtain ⟨⟨y⟩⟩ := b; simp at h; rw [h]
  · rintro rfl; rfl
def bad (a : ByteArray) : Bool := !nmB a.data.toList
def maxI (f : Fld) : Int := if f.md = 0 then 2 ^ f.wd.toNat - 1 else 0
def okF (f : Fld) : Bool := decide (1 ≤ f.wd ∧ f.wd ≤ 8 ∧ 0 ≤ f.sz ∧ f.sz ≤ 8 ∧ 0 ≤ f.md ∧ f.md ≤ 2 ∧ ¬ (0 < f.sz ∧ f.md = 2) ∧ 0 ≤ f.ini ∧ f.ini ≤ maxI f)
def fieldE (f : Fld) : Int := if bad f.nm = true then 7 else if okF f = true then 0 else 1
def firstE (l : List Int) : Int := (l.find? (fun e => e != 0)).getD 0
theorem firstE_zero {l : List Int} : firstE l = 0 ↔ ∀ e ∈ l, e = 0 := by
  unfold firstE; constructor
  · intro h e he; cases hf : l.find? (fun e => e != 0) with
    | none => have := List.find?_eq_none.1 hf e he; simpa using this
    | some x =>
      have h1 := List.find?_some hf; rw [hf] at h; simp at h h1; exact absurd h h1
  · intro h; rw [List.find?_eq_none.2 (fun x hx => by simpa using h x hx)]; rfl
theorem firstE_at {l : List Int} {k : Nat} {e : Int} (h : l[k]? = some e) (he : e ≠ 0) (hz : ∀ x ∈ l.take k, x = 0) : firstE l = e := by
  unfold firstE; obtain ⟨hk, hx⟩ := List.getElem?_eq_some_iff.1 h; have : l.find? (fun e => e != 0) = some e := by
    rw [← List.take_append_drop k l, List.find?_append, List.find?_eq_none.2 (fun x hx => by simpa using hz x hx), List.drop_eq_getElem_cons hk, hx]; simp [he]
  rw [this]; rfl
def large (c : Cl) : Bool := decide (16 < c.fs.length) || decide (16 < c.bs.length)
structure Val (c : Cl) : Prop where
  nm : bad c.nm = false
  par : c.par = emp ∨ bad c.par = false
  lg : large c = false
  fs : ∀ f ∈ c.fs, fieldE f = 0
  bs : ∀ b ∈ c.bs, bad b.nm = false
  df : (c.fs.map Fld.nm).Nodup
  db : (c.bs.map Bk.nm).Nodup
def fnd (src : List Cl) (x : ByteArray) : Option Cl := src.find? (fun c => same c.nm x)
def chain (src : List Cl) : Nat → Cl → List Cl
  | 0, c => [c]
  | k + 1, c => if same c.par emp = true then [c] else match fnd src c.par with
    | some d => c :: chain src k d
    | none => [c]
def plc (bs : List Bk) (x : ByteArray) : Option Nat := bs.findIdx? (fun a => same a.nm x)
def addB (bs : List Bk) (b : Bk) : List Bk := match plc bs b.nm with
  | some i => bs.set i b
  | none => bs ++ [b]
def addAll (bs ns : List Bk) : List Bk := ns.foldl addB bs
def stepC (c x : Cl) : Cl := ⟨x.nm, emp, c.fs ++ x.fs, addAll c.bs x.bs⟩
def flatL (l : List Cl) : Cl := l.foldr (fun x c => stepC c x) zCl
def lineOf (src : List Cl) (c : Cl) : List Cl := chain src src.length c
def flatOf (src : List Cl) (c : Cl) : Cl := flatL (lineOf src c)
def orphan (src : List Cl) (c : Cl) : Bool := !same c.par emp && (fnd src c.par).isNone
structure Good (src : List Cl) : Prop where
  len : src.length ≤ 32
  val : ∀ c ∈ src, Val c
  nd : (src.map Cl.nm).Nodup
  par : ∀ c ∈ src, orphan src c = false
  ends : ∀ c ∈ src, (lineOf src c).length ≤ src.length
  df : ∀ c ∈ src, ((flatOf src c).fs.map Fld.nm).Nodup
  lg : ∀ c ∈ src, large (flatOf src c) = false
end Go.Proofs.YtpejflgdehioaaaGreatDoor.ClM
namespace Go.Proofs.YtpejflgdehioaaaGreatDoor.WordM
open Go
def bitN (x i : Nat) : Nat := x / 2 ^ i % 2
def sumN : Nat → Nat → Nat
  | 0, _ => 0
  | n + 1, x => sumN n x + bitN x n
def wordN (a : Int) : Nat := (a % 65536).toNat
end Go.Proofs.YtpejflgdehioaaaGreatDoor.WordM
namespace Go.Proofs.YtpejflgdehioaaaGreatDoor.ExM
open Go Go.Proofs.YtpejflgdehioaaaGreatDoor.WordM Go.Proofs.YtpejflgdehioaaaGreatDoor.LexM
inductive Ex where
  | mk (op n : Int) (nm : ByteArray) (args : List Ex)
def Ex.op : Ex → Int | .mk o _ _ _ => o
def Ex.n : Ex → Int | .mk _ n _ _ => n
def Ex.nm : Ex → ByteArray | .mk _ _ s _ => s
def Ex.args : Ex → List Ex | .mk _ _ _ l => l
theorem Ex.ind {P : Ex → Prop} (h : ∀ o n s l, (∀ a ∈ l, P a) → P (.mk o n s l)) (e : Ex) : P e :=
  Ex.rec (motive_1 := P) (motive_2 := fun l => ∀ a ∈ l, P a) (fun o n s l ih => h o n s l ih) (fun _ ha => nomatch ha)
    (fun _ _ hb hr a ha => (List.mem_cons.1 ha).elim (fun e => e ▸ hb) (fun g => hr a g)) e
structure In where
  lv : Nat
  op : Int
  n : Int
  nm : ByteArray
  k : Nat
mutual
def pre (l : Nat) : Ex → List In
  | .mk o n s ks => ⟨l, o, n, s, ks.length⟩ :: pres (l + 1) ks
def pres (l : Nat) : List Ex → List In
  | [] => []
  | a :: r => pre l a ++ pres l r
end
theorem pre_mk (l : Nat) (o n : Int) (s : ByteArray) (ks : List Ex) : pre l (.mk o n s ks) = ⟨l, o, n, s, ks.length⟩ :: pres (l + 1) ks := by rw [pre]
theorem pres_nil (l : Nat) : pres l [] = [] := by rw [pres]
theorem pres_cons (l : Nat) (a : Ex) (r : List Ex) : pres l (a :: r) = pre l a ++ pres l r := by rw [pres]
theorem pres_append (l : Nat) (a b : List Ex) : pres l (a ++ b) = pres l a ++ pres l b := by
  induction a with
  | nil => simp [pres_nil]
  | cons x r ih => rw [List.cons_append, pres_cons, pres_cons, ih, List.append_assoc]
theorem pres_take {l k : Nat} {ks : List Ex} {a : Ex} (h : ks[k]? = some a) : pres l (ks.take (k + 1)) = pres l (ks.take k) ++ pre l a := by
  obtain ⟨hk, he⟩ := List.getElem?_eq_some_iff.1 h; rw [List.take_succ_eq_append_getElem hk, pres_append, he, pres_cons, pres_nil, List.append_nil]
theorem mem_pres {l : Nat} {ks : List Ex} {x : In} : x ∈ pres l ks ↔ ∃ a ∈ ks, x ∈ pre l a := by
  induction ks with
  | nil => simp [pres_nil]
  | cons b r ih => rw [pres_cons, List.mem_append, ih]; simp
mutual
def sz : Ex → Nat
  | .mk _ _ _ ks => szs ks + 1
def szs : List Ex → Nat
  | [] => 0
  | a :: r => sz a + szs r
def dep : Ex → Nat
  | .mk _ _ _ ks => deps ks + 1
def deps : List Ex → Nat
  | [] => 0
  | a :: r => max (dep a) (deps r)
end
theorem sz_mk (o n : Int) (s : ByteArray) (ks : List Ex) : sz (.mk o n s ks) = szs ks + 1 := by rw [sz]
theorem szs_nil : szs [] = 0 := by rw [szs]
theorem szs_cons (a : Ex) (r : List Ex) : szs (a :: r) = sz a + szs r := by rw [szs]
theorem dep_mk (o n : Int) (s : ByteArray) (ks : List Ex) : dep (.mk o n s ks) = deps ks + 1 := by rw [dep]
theorem deps_nil : deps [] = 0 := by rw [deps]
theorem deps_cons (a : Ex) (r : List Ex) : deps (a :: r) = max (dep a) (deps r) := by rw [deps]
theorem sz_pos (e : Ex) : 0 < sz e := by cases e; rw [sz_mk]; omega
theorem szs_append (a b : List Ex) : szs (a ++ b) = szs a + szs b := by
  induction a with
  | nil => simp [szs_nil]
  | cons x r ih => rw [List.cons_append, szs_cons, szs_cons, ih]; omega
theorem szs_take {k : Nat} {ks : List Ex} {a : Ex} (h : ks[k]? = some a) : szs (ks.take (k + 1)) = szs (ks.take k) + sz a := by
  obtain ⟨hk, he⟩ := List.getElem?_eq_some_iff.1 h; rw [List.take_succ_eq_append_getElem hk, szs_append, he, szs_cons, szs_nil]; omega
theorem szs_take_le (k : Nat) (ks : List Ex) : szs (ks.take k) ≤ szs ks := by
  have := szs_append (ks.take k) (ks.drop k); rw [List.take_append_drop] at this; omega
theorem len_szs (ks : List Ex) : ks.length ≤ szs ks := by
  induction ks with
  | nil => simp
  | cons a r ih => rw [szs_cons]; have := sz_pos a; simp; omega
theorem sz_mem {ks : List Ex} {a : Ex} (h : a ∈ ks) : sz a ≤ szs ks := by
  induction ks with
  | nil => cases h
  | cons b r ih =>
    rw [szs_cons]; rcases List.mem_cons.1 h with rfl | h
    · omega
    · have := ih h; omega
theorem pres_len {l : Nat} {ks : List Ex} (h : ∀ a ∈ ks, (pre l a).length = sz a) : (pres l ks).length = szs ks := by
  induction ks with
  | nil => rw [pres_nil, szs_nil]; rfl
  | cons b r ih => rw [pres_cons, szs_cons, List.length_append, h b (by simp), ih (fun a ha => h a (by simp [ha]))]
theorem pre_len (e : Ex) : ∀ l, (pre l e).length = sz e := by
  induction e using Ex.ind with
  | h o n s ks ih => intro l; rw [pre_mk, sz_mk, List.length_cons, pres_len (fun a ha => ih a ha _)]
def mxL (L : List In) : Nat := L.foldl (fun d x => max d x.lv) 0
theorem mx_fold (L : List In) : ∀ d, L.foldl (fun d x => max d x.lv) d = max d (mxL L) := by
  unfold mxL; induction L with
  | nil => intro d; simp
  | cons x r ih => intro d; rw [List.foldl_cons, List.foldl_cons, ih, ih (max 0 x.lv)]; omega
theorem mx_append (A B : List In) : mxL (A ++ B) = max (mxL A) (mxL B) := by
  unfold mxL; rw [List.foldl_append, mx_fold B]; rfl
theorem mx_one (x : In) : mxL [x] = x.lv := by simp [mxL]
theorem mx_cons (x : In) (A : List In) : mxL (x :: A) = max x.lv (mxL A) := by
  rw [show x :: A = [x] ++ A from rfl, mx_append, mx_one]
theorem mx_nil : mxL [] = 0 := rfl
theorem pres_mx {l : Nat} {ks : List Ex} (hl : 0 < ks.length) (h : ∀ a ∈ ks, mxL (pre l a) + 1 = l + dep a) : mxL (pres l ks) + 1 = l + deps ks := by
  induction ks with
  | nil => simp at hl
  | cons b r ih =>
    rw [pres_cons, deps_cons, mx_append]; have hb := h b (by simp); cases r with
    | nil => rw [pres_nil, deps_nil, mx_nil]; omega
    | cons c r => have := ih (by simp) (fun a ha => h a (by simp [ha])); omega
theorem pre_mx (e : Ex) : ∀ l, mxL (pre l e) + 1 = l + dep e := by
  induction e using Ex.ind with
  | h o n s ks ih =>
    intro l; rw [pre_mk, dep_mk, mx_cons]; cases ks with
    | nil => rw [pres_nil, deps_nil, mx_nil]; simp
    | cons b r => have := pres_mx (l := l + 1) (ks := b :: r) (by simp) (fun a ha => ih a ha _); simp only; omega
open Classical in
noncomputable def addN (l : List ByteArray) (s : ByteArray) : List ByteArray := if s ∈ l then l else l ++ [s]
noncomputable def stepN (p : Int → Bool) (l : List ByteArray) (x : In) : List ByteArray := if p x.op then addN l x.nm else l
noncomputable def namesL (p : Int → Bool) (L : List In) : List ByteArray := L.foldl (stepN p) []
def isVr (o : Int) : Bool := decide (o = 2)
def isAr (o : Int) : Bool := decide (o = 3) || decide (o = 24)
def arS (o : Int) : Int :=
  if o = 1 ∨ o = 2 ∨ o = 24 then 0 else if o = 3 ∨ o = 4 ∨ o = 5 ∨ o = 6 ∨ o = 25 then 1 else if o = 22 then 3 else if o = 23 then -1 else if 1 ≤ o ∧ o ≤ 25 then 2 else -1
def takesS (o : Int) (k : Nat) : Bool := if o = 23 then decide (3 ≤ k ∧ k ≤ 33 ∧ k % 2 = 1) else decide ((k : Int) = arS o)
def greatS (o : Int) : Int := if o = 1 then 65535 else 0
def elmB (l : List UInt8) : Bool :=
  match l.reverse with
  | c :: d :: b :: r => decide (c = 93) && (decide (b = 91) && (decide (48 ≤ d.toNat ∧ d.toNat ≤ 55) && nmB r.reverse))
  | _ => false
def varB (l : List UInt8) : Bool := elmB l || nmB l
def badA (x : In) : Bool := !takesS x.op x.k || (decide (x.n < 0) || (decide (greatS x.op < x.n) || (!decide (x.nm.size = 0) && (!isVr x.op && !isAr x.op))))
def badN (x : In) : Bool := (isVr x.op && !varB x.nm.data.toList) || (isAr x.op && !nmB x.nm.data.toList)
def fltS (x : In) : Int := if badA x = true then 1 else if badN x = true then 7 else 0
def fstE (L : List In) : Int := L.foldl (fun f x => if f = 0 then fltS x else f) 0
theorem fst_snoc (L : List In) (x : In) : fstE (L ++ [x]) = if fstE L = 0 then fltS x else fstE L := by
  unfold fstE; rw [List.foldl_append]; rfl
theorem fst_append (A B : List In) : fstE (A ++ B) = if fstE A = 0 then fstE B else fstE A := by
  have : ∀ (B : List In) (f : Int), B.foldl (fun f x => if f = 0 then fltS x else f) f = if f = 0 then fstE B else f := by
    intro B; unfold fstE; induction B with
    | nil => intro f; simp
    | cons y r ih =>
      intro f; rw [List.foldl_cons, List.foldl_cons, ih]; by_cases h : f = 0
      · subst h; simp only [if_true]; rw [ih (fltS y)]
      · simp only [if_neg h]
  unfold fstE at *; rw [List.foldl_append, this]
theorem fst_zero (L : List In) : fstE L = 0 ↔ ∀ x ∈ L, fltS x = 0 := by
  induction L with
  | nil => simp [fstE]
  | cons y r ih =>
    rw [show y :: r = [y] ++ r from rfl, fst_append]; have h1 : fstE [y] = fltS y := (by simp [fstE]); rw [h1]; by_cases h : fltS y = 0
    · rw [if_pos h, ih]; simp [h]
    · rw [if_neg h]; simp [h]
def vldL (L : List In) : Int := if fstE L = 0 then (if 24 < mxL L ∨ 400 < L.length then 2 else 0) else fstE L
theorem flt_lv (l m : Nat) (o n : Int) (s : ByteArray) (k : Nat) : fltS ⟨l, o, n, s, k⟩ = fltS ⟨m, o, n, s, k⟩ := rfl
theorem flt_range (x : In) : fltS x = 0 ∨ fltS x = 1 ∨ fltS x = 7 := by
  unfold fltS; split
  · simp
  · split <;> simp
def Ok (e : Ex) : Prop := ∀ x ∈ pre 0 e, fltS x = 0
theorem pres_lv {l : Nat} {ks : List Ex} (m : Nat) (h : ∀ a ∈ ks, (∀ x ∈ pre l a, fltS x = 0) → ∀ x ∈ pre m a, fltS x = 0) (g : ∀ x ∈ pres l ks, fltS x = 0) : ∀ x ∈ pres m ks, fltS x = 0 := by
  intro x hx; obtain ⟨a, ha, hxa⟩ := mem_pres.1 hx; exact h a ha (fun y hy => g y (mem_pres.2 ⟨a, ha, hy⟩)) x hxa
theorem pre_lv (e : Ex) : ∀ l m, (∀ x ∈ pre l e, fltS x = 0) → ∀ x ∈ pre m e, fltS x = 0 := by
  induction e using Ex.ind with
  | h o n s ks ih =>
    intro l m h x hx; rw [pre_mk] at hx; rcases List.mem_cons.1 hx with rfl | hx
    · have := h ⟨l, o, n, s, ks.length⟩ (by rw [pre_mk]; simp); rw [flt_lv m l]; exact this
    · exact pres_lv (l := l + 1) (m + 1) (fun a ha => ih a ha _ _) (fun y hy => h y (by rw [pre_mk]; simp [hy])) x hx
theorem ok_at (e : Ex) (l : Nat) : Ok e ↔ ∀ x ∈ pre l e, fltS x = 0 := ⟨pre_lv e 0 l, pre_lv e l 0⟩
theorem ok_mk (o n : Int) (s : ByteArray) (ks : List Ex) : Ok (.mk o n s ks) ↔ fltS ⟨0, o, n, s, ks.length⟩ = 0 ∧ ∀ a ∈ ks, Ok a := by
  constructor
  · intro h; refine ⟨h _ (by rw [pre_mk]; simp), fun a ha => (ok_at a 1).2 fun x hx => h x (by rw [pre_mk]; exact List.mem_cons_of_mem _ (mem_pres.2 ⟨a, ha, hx⟩))⟩
  · rintro ⟨h1, h2⟩ x hx; rw [pre_mk] at hx; rcases List.mem_cons.1 hx with rfl | hx
    · exact h1
    · obtain ⟨a, ha, hxa⟩ := mem_pres.1 hx; exact (ok_at a _).1 (h2 a ha) x hxa
def vld (e : Ex) : Int := vldL (pre 1 e)
theorem vld_zero (e : Ex) : vld e = 0 ↔ Ok e ∧ dep e ≤ 24 ∧ sz e ≤ 400 := by
  have h1 := pre_mx e 1; have h2 := pre_len e 1; unfold vld vldL; by_cases h : fstE (pre 1 e) = 0
  · rw [if_pos h, ok_at e 1, ← fst_zero]; by_cases g : 24 < mxL (pre 1 e) ∨ 400 < (pre 1 e).length
    · rw [if_pos g]; constructor
      · intro x; omega
      · rintro ⟨_, b, c⟩; omega
    · rw [if_neg g]; simp only [h, true_and]; constructor
      · intro _; omega
      · intro _; trivial
  · rw [if_neg h, ok_at e 1, ← fst_zero]; simp [h]
theorem vld_range (e : Ex) : 0 ≤ vld e ∧ vld e ≤ 7 := by
  unfold vld vldL; have : ∀ L, 0 ≤ fstE L ∧ fstE L ≤ 7 := by
    intro L; unfold fstE; have : ∀ (L : List In) f, (0 ≤ f ∧ f ≤ 7) → 0 ≤ L.foldl (fun f x => if f = 0 then fltS x else f) f ∧ L.foldl (fun f x => if f = 0 then fltS x else f) f ≤ 7 := by
      intro L; induction L with
      | nil => intro f h; exact h
      | cons y r ih =>
        intro f h; rw [List.foldl_cons]; apply ih; have := flt_range y; split <;> omega
    exact this L 0 (by omega)
  have := this (pre 1 e); split
  · split <;> omega
  · exact this
abbrev Env := List (ByteArray × Int)
def findS : Env → ByteArray → Option Int
  | [], _ => none
  | (a, v) :: r, s => if a.data.toList = s.data.toList then some (v % 65536) else findS r s
def fnd (env : Env) (s : ByteArray) : Int := (findS env s).getD 0
def hasN (env : Env) (s : ByteArray) : Bool := (findS env s).isSome
def elmN (a : ByteArray) (i : Nat) : ByteArray := ⟨(a.data.toList ++ [91, UInt8.ofNat (48 + i), 93]).toArray⟩
def elS (env : Env) (a : ByteArray) (i : Int) : Int := if 0 ≤ i ∧ i ≤ 7 then fnd env (elmN a i.toNat) else 0
def sumK (env : Env) (a : ByteArray) : Nat → Int
  | 0 => 0
  | k + 1 => (sumK env a k + elS env a k) % 65536
def ix (l : List Int) (i : Nat) : Int := l.getD i 0
def tr (b : Bool) : Int := if b then 1 else 0
def shlM (a n : Int) : Int := if 0 ≤ n ∧ n ≤ 15 then a * 2 ^ n.toNat % 65536 else 0
def shrM (a n : Int) : Int := if 0 ≤ n ∧ n ≤ 15 then a % 65536 / 2 ^ n.toNat else 0
def onesM (a : Int) : Int := (sumN 16 (wordN a) : Int)
def insB (n : Int) : List Int → Bool
  | a :: b :: r => (decide (a ≤ n) && decide (n ≤ b)) || insB n r
  | _ => false
def opS (o : Int) (l : List Int) : Int :=
  if o = 4 then tr (decide (ix l 0 = 0))
  else if o = 5 then 65535 - ix l 0 % 65536
  else if o = 6 then -ix l 0 % 65536
  else if o = 25 then onesM (ix l 0)
  else if o = 7 then (ix l 0 + ix l 1) % 65536
  else if o = 8 then (ix l 0 - ix l 1) % 65536
  else if o = 9 then ix l 0 * ix l 1 % 65536
  else if o = 13 then shlM (ix l 0) (ix l 1)
  else if o = 14 then shrM (ix l 0) (ix l 1)
  else if o = 10 then (((ix l 0).toNat &&& (ix l 1).toNat : Nat) : Int)
  else if o = 11 then (((ix l 0).toNat ||| (ix l 1).toNat : Nat) : Int)
  else if o = 12 then (((ix l 0).toNat ^^^ (ix l 1).toNat : Nat) : Int)
  else if o = 15 then tr (decide (ix l 0 = ix l 1))
  else if o = 16 then tr (!decide (ix l 0 = ix l 1))
  else if o = 17 then tr (decide (ix l 0 < ix l 1))
  else if o = 18 then tr (decide (ix l 0 ≤ ix l 1))
  else if o = 19 then tr (!decide (ix l 0 = 0) && !decide (ix l 1 = 0))
  else if o = 20 then tr (!decide (ix l 0 = 0) || !decide (ix l 1 = 0))
  else if o = 21 then tr (decide (ix l 0 = 0) || !decide (ix l 1 = 0))
  else if o = 22 then (if ix l 0 = 0 then ix l 2 else ix l 1)
  else tr (insB (ix l 0) l.tail)
def valS (env : Env) (o n : Int) (s : ByteArray) (l : List Int) : Int :=
  if o = 1 then n else if o = 2 then fnd env s else if o = 3 then elS env s (ix l 0) else if o = 24 then sumK env s 8 else opS o l
def knwS (env : Env) (o : Int) (s : ByteArray) : Bool :=
  if o = 2 then hasN env s else if o = 3 ∨ o = 24 then hasN env (elmN s 0) else true
mutual
def ev (env : Env) : Ex → Int
  | .mk o n s ks => valS env o n s (evs env ks)
def evs (env : Env) : List Ex → List Int
  | [] => []
  | a :: r => ev env a :: evs env r
def kn (env : Env) : Ex → Bool
  | .mk o _ s ks => kns env ks && knwS env o s
def kns (env : Env) : List Ex → Bool
  | [] => true
  | a :: r => kn env a && kns env r
end
mutual
def su (nm : ByteArray) (by_ : Ex) : Ex → Ex
  | .mk o n s ks => if isVr o = true ∧ s.data.toList = nm.data.toList then by_ else .mk o n s (sus nm by_ ks)
def sus (nm : ByteArray) (by_ : Ex) : List Ex → List Ex
  | [] => []
  | a :: r => su nm by_ a :: sus nm by_ r
end
theorem sus_map (nm : ByteArray) (b : Ex) (ks : List Ex) : sus nm b ks = ks.map (su nm b) := by
  induction ks with
  | nil => rw [sus]; rfl
  | cons a r ih => rw [sus, ih]; rfl
theorem su_mk (nm : ByteArray) (b : Ex) (o n : Int) (s : ByteArray) (ks : List Ex) : su nm b (.mk o n s ks) = if isVr o = true ∧ s.data.toList = nm.data.toList then b else .mk o n s (ks.map (su nm b)) := by rw [su, sus_map]
theorem su_sz (nm : ByteArray) (b e : Ex) : sz (su nm b e) ≤ sz e * sz b := by
  induction e using Ex.ind with
  | h o n s ks ih =>
    rw [su_mk, sz_mk]; have hb := sz_pos b; split
    · exact Nat.le_mul_of_pos_left _ (by omega)
    · rw [sz_mk]; have : szs (ks.map (su nm b)) ≤ szs ks * sz b := by
        clear hb; induction ks with
        | nil => simp [szs_nil]
        | cons a r ih2 =>
          rw [List.map_cons, szs_cons, szs_cons, Nat.add_mul]; have h1 := ih a (by simp); have h2 := ih2 (fun c hc => ih c (by simp [hc])); omega
      rw [Nat.add_mul]; omega
end Go.Proofs.YtpejflgdehioaaaGreatDoor.ExM
namespace Go.Proofs.YtpejflgdehioaaaGreatDoor.ItM
open Go Go.Proofs.YtpejflgdehioaaaGreatDoor.WordM Go.Proofs.YtpejflgdehioaaaGreatDoor.LexM Go.Proofs.YtpejflgdehioaaaGreatDoor.ExM
open Go.Proofs.YtpejflgdehioaaaGreatDoor.ClM (Fld firstE firstE_zero firstE_at)
structure Wt where
  lo : Int
  hi : Int
  wt : Int
  ea : Bool
inductive It where
  | mk (kd : Int) (e : Ex) (nm ix : ByteArray) (ws : List Wt) (it el : List It) (bf af : List ByteArray)
def It.kd : It → Int | .mk k _ _ _ _ _ _ _ _ => k
def It.e : It → Ex | .mk _ e _ _ _ _ _ _ _ => e
def It.nm : It → ByteArray | .mk _ _ s _ _ _ _ _ _ => s
def It.ix : It → ByteArray | .mk _ _ _ s _ _ _ _ _ => s
def It.ws : It → List Wt | .mk _ _ _ _ l _ _ _ _ => l
def It.it : It → List It | .mk _ _ _ _ _ l _ _ _ => l
def It.el : It → List It | .mk _ _ _ _ _ _ l _ _ => l
def It.bf : It → List ByteArray | .mk _ _ _ _ _ _ _ l _ => l
def It.af : It → List ByteArray | .mk _ _ _ _ _ _ _ _ l => l
theorem its_ind {P : List It → Prop} (h : ∀ l, (∀ x ∈ l, P x.it ∧ P x.el) → P l) (l : List It) : P l :=
  h l (It.rec_1 (motive_1 := fun x => P x.it ∧ P x.el) (motive_2 := fun l => ∀ x ∈ l, P x.it ∧ P x.el)
    (fun _ _ _ _ _ it el _ _ hi he => ⟨h it hi, h el he⟩) (fun _ ha => nomatch ha)
    (fun _ _ hb hr a ha => (List.mem_cons.1 ha).elim (fun e => e ▸ hb) (fun g => hr a g)) l)
theorem its_rec {P : List It → Prop} (h0 : P []) (h1 : ∀ x r, P x.it → P x.el → P r → P (x :: r)) (l : List It) : P l := by
  induction l using its_ind with
  | h l ih =>
    induction l with
    | nil => exact h0
    | cons x r ih2 => exact h1 x r (ih x (by simp)).1 (ih x (by simp)).2 (ih2 fun y hy => ih y (by simp [hy]))
mutual
def isz : It → Nat
  | .mk _ _ _ _ _ it el _ _ => iszs it + iszs el + 1
def iszs : List It → Nat
  | [] => 0
  | a :: r => isz a + iszs r
end
theorem isz_eq (x : It) : isz x = iszs x.it + iszs x.el + 1 := by cases x; rw [isz]; rfl
theorem iszs_nil : iszs [] = 0 := by rw [iszs]
theorem iszs_cons (a : It) (r : List It) : iszs (a :: r) = isz a + iszs r := by rw [iszs]
theorem iszs_append (a b : List It) : iszs (a ++ b) = iszs a + iszs b := by
  induction a with
  | nil => simp [iszs_nil]
  | cons x r ih => rw [List.cons_append, iszs_cons, iszs_cons, ih]; omega
theorem iszs_take {k : Nat} {l : List It} {a : It} (h : l[k]? = some a) : iszs (l.take (k + 1)) = iszs (l.take k) + isz a := by
  obtain ⟨hk, he⟩ := List.getElem?_eq_some_iff.1 h; rw [List.take_succ_eq_append_getElem hk, iszs_append, he, iszs_cons, iszs_nil]; omega
theorem iszs_take_le (k : Nat) (l : List It) : iszs (l.take k) ≤ iszs l := by
  have := iszs_append (l.take k) (l.drop k); rw [List.take_append_drop] at this; omega
structure Pl where
  d : Nat
  B : List ByteArray
  x : It
def inn (kd : Int) (ix : ByteArray) (B : List ByteArray) : List ByteArray := if kd = 5 then ix :: B else B
mutual
def wk (d : Nat) (B : List ByteArray) : It → List Pl
  | .mk kd e nm ix ws it el bf af => ⟨d, B, .mk kd e nm ix ws it el bf af⟩ :: (wks (d + 1) (inn kd ix B) it ++ wks (d + 1) B el)
def wks (d : Nat) (B : List ByteArray) : List It → List Pl
  | [] => []
  | a :: r => wk d B a ++ wks d B r
end
theorem wk_eq (d : Nat) (B : List ByteArray) (x : It) : wk d B x = ⟨d, B, x⟩ :: (wks (d + 1) (inn x.kd x.ix B) x.it ++ wks (d + 1) B x.el) := by cases x; rw [wk]; rfl
theorem wks_nil (d : Nat) (B : List ByteArray) : wks d B [] = [] := by rw [wks]
theorem wks_cons (d : Nat) (B : List ByteArray) (a : It) (r : List It) : wks d B (a :: r) = wk d B a ++ wks d B r := by rw [wks]
theorem wks_append (d : Nat) (B : List ByteArray) (a b : List It) : wks d B (a ++ b) = wks d B a ++ wks d B b := by
  induction a with
  | nil => simp [wks_nil]
  | cons x r ih => rw [List.cons_append, wks_cons, wks_cons, ih, List.append_assoc]
theorem wks_take {d k : Nat} {B : List ByteArray} {l : List It} {a : It} (h : l[k]? = some a) : wks d B (l.take (k + 1)) = wks d B (l.take k) ++ wk d B a := by
  obtain ⟨hk, he⟩ := List.getElem?_eq_some_iff.1 h; rw [List.take_succ_eq_append_getElem hk, wks_append, he, wks_cons, wks_nil, List.append_nil]
theorem wks_len (l : List It) : ∀ d B, (wks d B l).length = iszs l := by
  induction l using its_rec with
  | h0 => intro d B; rw [wks_nil, iszs_nil]; rfl
  | h1 x r h1 h2 h3 => intro d B; rw [wks_cons, wk_eq, iszs_cons, isz_eq, List.length_append, List.length_cons, List.length_append, h1, h2, h3]
def Nd1 (x : It) : Prop := sz x.e ≤ 10000 ∧ x.ws.length ≤ 1000 ∧ x.bf.length ≤ 1000 ∧ x.af.length ≤ 1000
mutual
def RsI : It → Prop
  | .mk kd e nm ix ws it el bf af => Nd1 (.mk kd e nm ix ws it el bf af) ∧ RsL it ∧ RsL el
def RsL : List It → Prop
  | [] => True
  | a :: r => RsI a ∧ RsL r
end
theorem rsI_eq (x : It) : RsI x ↔ Nd1 x ∧ RsL x.it ∧ RsL x.el := by cases x; rw [RsI]; rfl
theorem rsL_nil : RsL [] := by rw [RsL]; trivial
theorem rsL_cons (a : It) (r : List It) : RsL (a :: r) ↔ RsI a ∧ RsL r := by rw [RsL]
theorem rs_wks (l : List It) : ∀ d B, RsL l → ∀ p ∈ wks d B l, Nd1 p.x := by
  induction l using its_rec with
  | h0 => intro d B _ p hp; rw [wks_nil] at hp; cases hp
  | h1 x r h1 h2 h3 =>
    intro d B h p hp; rw [rsL_cons, rsI_eq] at h; rw [wks_cons, wk_eq] at hp; rcases List.mem_append.1 hp with hp | hp
    · rcases List.mem_cons.1 hp with rfl | hp
      · exact h.1.1
      · rcases List.mem_append.1 hp with hp | hp
        · exact h1 _ _ h.1.2.1 p hp
        · exact h2 _ _ h.1.2.2 p hp
    · exact h3 _ _ h.2 p hp
def zE : Ex := .mk 0 0 ⟨#[]⟩ []
def isEmp (s : ByteArray) : Bool := decide (s.size = 0)
def zB (e : Ex) : Bool := decide (e.op = 0) && (decide (e.n = 0) && (isEmp e.nm && e.args.isEmpty))
def freeB (x : It) : Bool :=
  if x.kd = 1 ∨ x.kd = 2 then isEmp x.nm && (isEmp x.ix && (x.ws.isEmpty && (x.it.isEmpty && (x.el.isEmpty && (x.bf.isEmpty && x.af.isEmpty)))))
  else if x.kd = 3 then zB x.e && (isEmp x.ix && (x.it.isEmpty && (x.el.isEmpty && (x.bf.isEmpty && x.af.isEmpty))))
  else if x.kd = 4 then isEmp x.nm && (isEmp x.ix && (x.ws.isEmpty && (x.bf.isEmpty && x.af.isEmpty)))
  else if x.kd = 5 then zB x.e && (x.ws.isEmpty && (x.el.isEmpty && (x.bf.isEmpty && x.af.isEmpty)))
  else zB x.e && (isEmp x.nm && (isEmp x.ix && (x.ws.isEmpty && (x.it.isEmpty && x.el.isEmpty))))
def outK (k : Int) : Bool := decide (k = 3) || decide (k = 6)
def kindB (k : Int) : Bool := decide (1 ≤ k) && decide (k ≤ 6)
def wrongW (w : Wt) : Bool := decide (w.lo < 0) || (decide (w.hi < w.lo) || (decide (65535 < w.hi) || (decide (w.wt < 0) || decide (1000 < w.wt))))
def noVar (s : ByteArray) : Bool := !varB s.data.toList
def nameB (s : ByteArray) : Bool := nmB s.data.toList
def distE (x : It) : Int := if 16 < x.ws.length then 2 else if x.ws.length = 0 ∨ x.ws.any wrongW = true then 1 else if noVar x.nm = true then 7 else 0
def solveE (x : It) : Int := if x.bf.length = 0 ∨ x.af.length = 0 then 1 else if x.bf.any noVar = true ∨ x.af.any noVar = true then 7 else 0
def fltI (d : Nat) (x : It) : Int :=
  if (!kindB x.kd || (!freeB x || (decide (4 < d) || (decide (0 < d) && outK x.kd)))) = true then 1
  else if x.kd = 3 then distE x
  else if x.kd = 6 then solveE x
  else if x.kd = 5 then (if nameB x.nm = true ∧ nameB x.ix = true then 0 else 7)
  else vld x.e
def fltP (p : Pl) : Int := fltI p.d p.x
def firstV (l : List It) : Int := firstE ((wks 0 [] l).map fltP)
def validI (l : List It) : Int := if 64 < iszs l then 2 else firstV l
theorem firstE_nil : firstE [] = 0 := rfl
theorem firstE_cons (a : Int) (l : List Int) : firstE (a :: l) = if a = 0 then firstE l else a := by
  unfold firstE; rw [List.find?_cons]; by_cases h : a = 0
  · subst h; simp
  · have h2 : (a != 0) = true := (by simpa using h); rw [h2, if_neg h]; rfl
theorem firstE_append (a b : List Int) : firstE (a ++ b) = if firstE a = 0 then firstE b else firstE a := by
  induction a with
  | nil => simp [firstE_nil]
  | cons x r ih =>
    rw [List.cons_append, firstE_cons, firstE_cons, ih]; by_cases h : x = 0
    · simp [h]
    · simp [h]
theorem firstE_snoc (a : List Int) (x : Int) : firstE (a ++ [x]) = if firstE a = 0 then x else firstE a := by
  rw [firstE_append, firstE_cons, firstE_nil]; by_cases h : x = 0 <;> simp [h]
def szO (fs : List Fld) (s : ByteArray) : Option Int := (fs.find? (fun f => ClM.same f.nm s)).map Fld.sz
def szI (fs : List Fld) (s : ByteArray) : Int := (szO fs s).getD 0
def hasA (fs : List Fld) (s : ByteArray) : Bool := decide (0 < szI fs s)
def hasP (fs : List Fld) (s : ByteArray) : Bool := match szO fs s with | some n => decide (n ≤ 0) | none => false
def cutA (s : ByteArray) : ByteArray := ⟨(s.data.toList.take (s.data.toList.length - 3)).toArray⟩
def cutK (s : ByteArray) : Int := (((s.data.toList.getD (s.data.toList.length - 2) 48).toNat - 48 : Nat) : Int)
def isE (s : ByteArray) : Bool := elmB s.data.toList
def hasV (fs : List Fld) (s : ByteArray) : Bool := hasP fs s || (isE s && decide (cutK s < szI fs (cutA s)))
def misP (fs : List Fld) (s : ByteArray) : Bool := isE s && hasP fs (cutA s)
def unkB (fs : List Fld) (s : ByteArray) : Bool := misP fs s || (!hasV fs s && !hasA fs s)
def arrE (fs : List Fld) (s : ByteArray) : Int := if hasP fs s = true then 9 else if hasA fs s = true then 0 else 7
def varE (fs : List Fld) (s : ByteArray) : Int := if (hasA fs s || misP fs s) = true then 9 else if hasV fs s = true then 0 else 7
def memB (B : List ByteArray) (s : ByteArray) : Bool := B.any (fun t => ClM.same t s)
def nodE (fs : List Fld) (B : List ByteArray) (x : In) : Int := if isAr x.op = true then arrE fs x.nm else if (isVr x.op && !memB B x.nm) = true then varE fs x.nm else 0
def exE (fs : List Fld) (B : List ByteArray) (e : Ex) : Int := firstE ((pre 1 e).map (nodE fs B))
def chkI (fs : List Fld) (B : List ByteArray) (x : It) : Int :=
  if x.kd = 3 then (if unkB fs x.nm = true then 7 else 0)
  else if x.kd = 6 then (if (x.bf ++ x.af).any (unkB fs) = true then 7 else 0)
  else if x.kd = 5 then (if arrE fs x.nm = 0 then (if ((szO fs x.ix).isSome || memB B x.ix) = true then 8 else 0) else arrE fs x.nm)
  else exE fs B x.e
def chkP (fs : List Fld) (p : Pl) : Int := chkI fs p.B p.x
def firstC (fs : List Fld) (l : List It) : Int := firstE ((wks 0 [] l).map (chkP fs))
def checkI (fs : List Fld) (l : List It) : Int := if validI l = 0 then firstC fs l else validI l
def nodN (B : List ByteArray) (x : In) : List ByteArray := if (isAr x.op || (isVr x.op && !memB B x.nm)) = true then [x.nm] else []
def exN (B : List ByteArray) (e : Ex) : List ByteArray := (pre 1 e).flatMap (nodN B)
def ownN (B : List ByteArray) (x : It) : List ByteArray :=
  if x.kd = 1 ∨ x.kd = 2 ∨ x.kd = 4 then exN B x.e else if x.kd = 3 ∨ x.kd = 5 then [x.nm] else if x.kd = 6 then x.bf ++ x.af else []
def addN (l : List ByteArray) (s : ByteArray) : List ByteArray := if memB l s = true then l else l ++ [s]
def cst (k : Int) : Ex := .mk 1 k ⟨#[]⟩ []
mutual
def cntI (fs : List Fld) : It → Int
  | .mk kd _ nm _ _ it el _ _ => if kd = 4 then cntL fs it + cntL fs el else if kd = 5 then cntL fs it * min (szI fs nm) 401 else 1
def cntL (fs : List Fld) : List It → Int
  | [] => 0
  | a :: r => cntI fs a + cntL fs r
end
theorem cntI_eq (fs : List Fld) (x : It) : cntI fs x = if x.kd = 4 then cntL fs x.it + cntL fs x.el else if x.kd = 5 then cntL fs x.it * min (szI fs x.nm) 401 else 1 := by cases x; rw [cntI]; rfl
theorem cntL_nil (fs : List Fld) : cntL fs [] = 0 := by rw [cntL]
theorem cntL_cons (fs : List Fld) (a : It) (r : List It) : cntL fs (a :: r) = cntI fs a + cntL fs r := by rw [cntL]
def und (q : Option Ex) (op : Int) (e : Ex) : Ex := match q with | none => e | some c => .mk op 0 ⟨#[]⟩ [c, e]
def notE (e : Ex) : Ex := .mk 4 0 ⟨#[]⟩ [e]
def hardI (kd : Int) (e : Ex) : It := .mk kd e ⟨#[]⟩ ⟨#[]⟩ [] [] [] [] []
def outI (x : It) : It := .mk x.kd zE x.nm ⟨#[]⟩ x.ws [] [] x.bf x.af
mutual
def exI (fs : List Fld) (q : Option Ex) (σ : Ex → Ex) : It → List It
  | .mk kd e nm ix ws it el bf af =>
    if kd = 4 then exL fs (some (und q 19 (σ e))) σ it ++ exL fs (some (und q 19 (notE (σ e)))) σ el
    else if kd = 5 then (List.range (szI fs nm).toNat).flatMap (fun (k : Nat) => exL fs q (fun a => su ix (cst (k : Int)) (σ a)) it)
    else if kd = 1 ∨ kd = 2 then [hardI kd (und q 21 (σ e))]
    else [outI (.mk kd e nm ix ws it el bf af)]
def exL (fs : List Fld) (q : Option Ex) (σ : Ex → Ex) : List It → List It
  | [] => []
  | a :: r => exI fs q σ a ++ exL fs q σ r
end
theorem exI_eq (fs : List Fld) (q : Option Ex) (σ : Ex → Ex) (x : It) : exI fs q σ x =
    if x.kd = 4 then exL fs (some (und q 19 (σ x.e))) σ x.it ++ exL fs (some (und q 19 (notE (σ x.e)))) σ x.el
    else if x.kd = 5 then (List.range (szI fs x.nm).toNat).flatMap (fun (k : Nat) => exL fs q (fun a => su x.ix (cst (k : Int)) (σ a)) x.it)
    else if x.kd = 1 ∨ x.kd = 2 then [hardI x.kd (und q 21 (σ x.e))]
    else [outI x] := by cases x; rw [exI]; rfl
theorem exL_nil (fs : List Fld) (q : Option Ex) (σ : Ex → Ex) : exL fs q σ [] = [] := by rw [exL]
theorem exL_cons (fs : List Fld) (q : Option Ex) (σ : Ex → Ex) (a : It) (r : List It) : exL fs q σ (a :: r) = exI fs q σ a ++ exL fs q σ r := by rw [exL]
def largeB (x : It) : Bool := !outK x.kd && !decide (vld x.e = 0)
def expS (fs : List Fld) (l : List It) : List It × Int :=
  if checkI fs l = 0 then
    (if 400 < cntL fs l then ([], 2) else if (exL fs none (fun a => a) l).any largeB = true then ([], 2) else (exL fs none (fun a => a) l, 0))
  else ([], checkI fs l)
def elV (a : ByteArray) (k : Nat) : Ex := .mk 2 0 (elmN a k) []
def sumE (a : ByteArray) : Nat → Ex
  | 0 => elV a 0
  | k + 1 => .mk 7 0 ⟨#[]⟩ [sumE a k, elV a (k + 1)]
def choE (a : ByteArray) (i : Ex) (k : Nat) : Nat → Ex
  | 0 => cst 0
  | m + 1 => .mk 22 0 ⟨#[]⟩ [.mk 15 0 ⟨#[]⟩ [i, cst k], elV a k, choE a i (k + 1) m]
def elmE (a : ByteArray) (n : Nat) (i : Ex) : Ex := if i.op = 1 then (if i.n < n then elV a i.n.toNat else cst 0) else choE a i 0 n
def hdE (l : List Ex) : Ex := l.headD zE
mutual
def scM (fs : List Fld) : Ex → Ex
  | .mk o n s ks => if o = 24 then sumE s ((szI fs s).toNat - 1) else if o = 3 then elmE s (szI fs s).toNat (hdE (scMs fs ks)) else .mk o n s (scMs fs ks)
def scMs (fs : List Fld) : List Ex → List Ex
  | [] => []
  | a :: r => scM fs a :: scMs fs r
end
theorem scMs_map (fs : List Fld) (ks : List Ex) : scMs fs ks = ks.map (scM fs) := by
  induction ks with
  | nil => rw [scMs]; rfl
  | cons a r ih => rw [scMs, ih]; rfl
theorem scM_mk (fs : List Fld) (o n : Int) (s : ByteArray) (ks : List Ex) : scM fs (.mk o n s ks) = if o = 24 then sumE s ((szI fs s).toNat - 1) else if o = 3 then elmE s (szI fs s).toNat (hdE (ks.map (scM fs))) else .mk o n s (ks.map (scM fs)) := by rw [scM, scMs_map]
mutual
def scB (fs : List Fld) : Ex → Bool
  | .mk o n s ks => scBs fs ks && decide (vld (scM fs (.mk o n s ks)) = 0)
def scBs (fs : List Fld) : List Ex → Bool
  | [] => true
  | a :: r => scB fs a && scBs fs r
end
theorem scBs_all (fs : List Fld) (ks : List Ex) : scBs fs ks = ks.all (scB fs) := by
  induction ks with
  | nil => rw [scBs]; rfl
  | cons a r ih => rw [scBs, ih]; rfl
theorem scB_mk (fs : List Fld) (o n : Int) (s : ByteArray) (ks : List Ex) : scB fs (.mk o n s ks) = (ks.all (scB fs) && decide (vld (scM fs (.mk o n s ks)) = 0)) := by rw [scB, scBs_all]
def scaS (fs : List Fld) (e : Ex) : Ex × Int :=
  if vld e = 0 then (if exE fs [] e = 0 then (if scB fs e = true then (scM fs e, 0) else (zE, 2)) else (zE, exE fs [] e)) else (zE, vld e)
end Go.Proofs.YtpejflgdehioaaaGreatDoor.ItM
namespace Go.Proofs.YtpejflgdehioaaaGreatDoor.LexW
open Go Go.RowKit Go.Proofs.YtpejflgdehioaaaGreatDoor.NumM Go.Proofs.YtpejflgdehioaaaGreatDoor.LexM
theorem retb {a b : Bool} (h : a = b) : Ending.returned (.bool a) = .returned (.bool b) := by rw [h]
def smI (c : Int) : Bool := decide (97 ≤ c) && decide (c ≤ 122)
def dgI (c : Int) : Bool := decide (48 ≤ c) && decide (c ≤ 57)
theorem isSmall_any (c : Int) (w : World) : Calls Tryz.prog 193 #[.int .i32 c] w fun e w' => e = .returned (.bool (smI c)) ∧ w = w' := by
  by_cases h1 : 97 ≤ c
  · by_cases h2 : c ≤ 122
    all_goals
      go_enter Tryz.func193, Tryz.ntmps193
      go_wp2; go_ret; exact ⟨retb (by simp [smI, h1, h2]), rfl⟩
  · have h2 : (smI c) = false := by simp [smI]; omega
    go_enter Tryz.func193, Tryz.ntmps193
    go_wp2; go_ret; exact ⟨rfl, rfl⟩
theorem isDigit_any (c : Int) (w : World) : Calls Tryz.prog 195 #[.int .i32 c] w fun e w' => e = .returned (.bool (dgI c)) ∧ w = w' := by
  by_cases h1 : 48 ≤ c
  · by_cases h2 : c ≤ 57
    all_goals
      go_enter Tryz.func195, Tryz.ntmps195
      go_wp2; go_ret; exact ⟨retb (by simp [dgI, h1, h2]), rfl⟩
  · have h2 : (dgI c) = false := by simp [dgI]; omega
    go_enter Tryz.func195, Tryz.ntmps195
    go_wp2; go_ret; exact ⟨rfl, rfl⟩
theorem smallR_any (c : Int) (w : World) : Calls Tryz.prog 78 #[.int .u8 c] w fun e w' => e = .returned (.bool (smI c)) ∧ w = w' := by
  by_cases h1 : 97 ≤ c
  · by_cases h2 : c ≤ 122
    all_goals
      go_enter Tryz.func78, Tryz.ntmps78
      go_wp2; go_ret; exact ⟨retb (by simp [smI, h1, h2]), rfl⟩
  · have h2 : (smI c) = false := by simp [smI]; omega
    go_enter Tryz.func78, Tryz.ntmps78
    go_wp2; go_ret; exact ⟨rfl, rfl⟩
theorem digitR_any (c : Int) (w : World) : Calls Tryz.prog 124 #[.int .u8 c] w fun e w' => e = .returned (.bool (dgI c)) ∧ w = w' := by
  by_cases h1 : 48 ≤ c
  · by_cases h2 : c ≤ 57
    all_goals
      go_enter Tryz.func124, Tryz.ntmps124
      go_wp2; go_ret; exact ⟨retb (by simp [dgI, h1, h2]), rfl⟩
  · have h2 : (dgI c) = false := by simp [dgI]; omega
    go_enter Tryz.func124, Tryz.ntmps124
    go_wp2; go_ret; exact ⟨rfl, rfl⟩
set_option maxRecDepth 100000 in
set_option maxHeartbeats 4000000 in
theorem isKeyword_no (s : ByteArray) (w : World) (h : isKw s.data.toList = false) : Calls Tryz.prog 205 #[.string s] w fun e w' => e = .returned (.bool (isKw s.data.toList)) ∧ w = w' := by
  have hn : ∀ k ∈ kws, (s.toList == k) = false := fun k hk => by
    have := of_decide_eq_false h; rw [Lib.toList_data, beq_eq_false_iff_ne]; rintro rfl; exact this hk
  have n0 := hn [99, 108, 97, 115, 115] (by decide); have n1 := hn [101, 120, 116, 101, 110, 100, 115] (by decide); have n2 := hn [114, 97, 110, 100] (by decide); have n3 := hn [114, 97, 110, 100, 99] (by decide); have n4 := hn [115, 116, 97, 116, 101] (by decide); have n5 := hn [99, 111, 110, 115, 116, 114, 97, 105, 110, 116] (by decide); have n6 := hn [115, 111, 102, 116] (by decide); have n7 := hn [100, 105, 115, 116] (by decide); have n8 := hn [105, 102] (by decide); have n9 := hn [101, 108, 115, 101] (by decide); have n10 := hn [101, 97, 99, 104] (by decide); have n11 := hn [105, 110] (by decide); have n12 := hn [115, 111, 108, 118, 101] (by decide); have n13 := hn [98, 101, 102, 111, 114, 101] (by decide); have n14 := hn [105, 110, 115, 105, 100, 101] (by decide); have n15 := hn [112, 114, 111, 112, 101, 114, 116, 121] (by decide); have n16 := hn [115, 101, 113] (by decide); have n17 := hn [97, 110, 100] (by decide); have n18 := hn [111, 114] (by decide); have n19 := hn [110, 111, 116] (by decide); have n20 := hn [115, 101, 116] (by decide); have n21 := hn [104, 111, 108, 100] (by decide); have n22 := hn [112, 108, 97, 105, 110] (by decide); have n23 := hn [114, 101, 112, 101, 97, 116] (by decide); have H := Lib.hid h; clear h hn
  go_enter Tryz.func205, Tryz.ntmps205
  go_wp2; go_ret; exact ⟨retb H.out.symm, rfl⟩
set_option maxRecDepth 100000 in
set_option maxHeartbeats 4000000 in
theorem isKeyword_yes (s : ByteArray) (w : World) (h : isKw s.data.toList = true) : Calls Tryz.prog 205 #[.string s] w fun e w' => e = .returned (.bool (isKw s.data.toList)) ∧ w = w' := by
  have H := Lib.hid h; have h := of_decide_eq_true h; simp only [kws, List.mem_cons, List.not_mem_nil, or_false] at h; rcases h with h | h | h | h | h | h | h | h | h | h | h | h | h | h | h | h | h | h | h | h | h | h | h | h
  all_goals
    have e := (Lib.toList_data s).trans h; clear h
    go_enter Tryz.func205, Tryz.ntmps205
    go_wp2; go_ret; exact ⟨retb H.out.symm, rfl⟩
theorem isKeyword_any (s : ByteArray) (w : World) : Calls Tryz.prog 205 #[.string s] w fun e w' => e = .returned (.bool (isKw s.data.toList)) ∧ w = w' := by
  cases h : isKw s.data.toList
  · rw [← h]; exact isKeyword_no s w h
  · rw [← h]; exact isKeyword_yes s w h
set_option maxRecDepth 100000 in
set_option maxHeartbeats 4000000 in
theorem isMark_no (s : ByteArray) (w : World) (h : isMk s.data.toList = false) : Calls Tryz.prog 204 #[.string s] w fun e w' => e = .returned (.bool (isMk s.data.toList)) ∧ w = w' := by
  have hn : ∀ k ∈ mks, (s.toList == k) = false := fun k hk => by
    have := of_decide_eq_false h; rw [Lib.toList_data, beq_eq_false_iff_ne]; rintro rfl; exact this hk
  have n0 := hn [40] (by decide); have n1 := hn [41] (by decide); have n2 := hn [123] (by decide); have n3 := hn [125] (by decide); have n4 := hn [91] (by decide); have n5 := hn [93] (by decide); have n6 := hn [44] (by decide); have n7 := hn [59] (by decide); have n8 := hn [58] (by decide); have n9 := hn [46, 46] (by decide); have n10 := hn [63] (by decide); have n11 := hn [61] (by decide); have n12 := hn [61, 61] (by decide); have n13 := hn [33, 61] (by decide); have n14 := hn [60] (by decide); have n15 := hn [60, 61] (by decide); have n16 := hn [62] (by decide); have n17 := hn [62, 61] (by decide); have n18 := hn [60, 60] (by decide); have n19 := hn [62, 62] (by decide); have n20 := hn [43] (by decide); have n21 := hn [45] (by decide); have n22 := hn [42] (by decide); have n23 := hn [38] (by decide); have n24 := hn [124] (by decide); have n25 := hn [94] (by decide); have n26 := hn [126] (by decide); have n27 := hn [33] (by decide); have n28 := hn [38, 38] (by decide); have n29 := hn [124, 124] (by decide); have n30 := hn [45, 62] (by decide); have n31 := hn [61, 62] (by decide); have n32 := hn [58, 61] (by decide); have n33 := hn [58, 47] (by decide); have n34 := hn [35, 35] (by decide); have n35 := hn [64] (by decide); have H := Lib.hid h; clear h hn
  go_enter Tryz.func204, Tryz.ntmps204
  go_wp2; go_ret; exact ⟨retb H.out.symm, rfl⟩
set_option maxRecDepth 100000 in
set_option maxHeartbeats 4000000 in
theorem isMark_yes (s : ByteArray) (w : World) (h : isMk s.data.toList = true) : Calls Tryz.prog 204 #[.string s] w fun e w' => e = .returned (.bool (isMk s.data.toList)) ∧ w = w' := by
  have H := Lib.hid h; have h := of_decide_eq_true h; simp only [mks, List.mem_cons, List.not_mem_nil, or_false] at h; rcases h with h | h | h | h | h | h | h | h | h | h | h | h | h | h | h | h | h | h | h | h | h | h | h | h | h | h | h | h | h | h | h | h | h | h | h | h
  all_goals
    have e := (Lib.toList_data s).trans h; clear h
    go_enter Tryz.func204, Tryz.ntmps204
    go_wp2; go_ret; exact ⟨retb H.out.symm, rfl⟩
theorem isMark_any (s : ByteArray) (w : World) : Calls Tryz.prog 204 #[.string s] w fun e w' => e = .returned (.bool (isMk s.data.toList)) ∧ w = w' := by
  cases h : isMk s.data.toList
  · rw [← h]; exact isMark_no s w h
  · rw [← h]; exact isMark_yes s w h
theorem take_snoc (s : ByteArray) (k : Nat) (h : k < s.size) : s.data.toList.take (k + 1) = s.data.toList.take k ++ [s[k]] := by
  rw [List.take_succ_eq_append_getElem (by simpa using h)]; rfl
theorem len_data (s : ByteArray) : s.data.toList.length = s.size := by simp
theorem drop_cons (s : ByteArray) (k : Nat) (h : k < s.size) : s.data.toList.drop k = s[k] :: s.data.toList.drop (k + 1) := by
  rw [List.drop_eq_getElem_cons (by simpa using h)]; rfl
def wrI (c : Int) : Bool := smI c || (dgI c || ((decide (65 ≤ c) && decide (c ≤ 90)) || (c == 95)))
theorem wrI_byte (c : UInt8) : wrI (c.toNat : Int) = wrd c := by
  rw [Bool.eq_iff_iff]; simp [wrI, smI, dgI, wrd, sml, dgt, capl]; omega
theorem wrI_high {c : Int} (h : 128 ≤ c) : wrI c = false := by
  simp [wrI, smI, dgI]; omega
theorem inWord_any (c : Int) (w : World) : Calls Tryz.prog 191 #[.int .i32 c] w fun e w' => e = .returned (.bool (wrI c)) ∧ w = w' := by
  go_enter Tryz.func191, Tryz.ntmps191
  go_wp2_with (first | (go_at_call 193; refine (isSmall_any _ _).mono ?_; rintro e w' ⟨rfl, rfl⟩) | (go_at_call 195; refine (isDigit_any _ _).mono ?_; rintro e w' ⟨rfl, rfl⟩))
  all_goals
    go_ret; exact ⟨retb (by simp_all [wrI]; try (intros; omega)), rfl⟩
theorem takeWhile_at {p : UInt8 → Bool} {l : List UInt8} {k : Nat} (h : (l.take k).all p = true) (hs : l.length ≤ k ∨ ∃ c r, l.drop k = c :: r ∧ p c = false) (hk : k ≤ l.length) : (l.takeWhile p).length = k := by
  have e1 : l.takeWhile p = l.take k ++ (l.drop k).takeWhile p := by
    have := List.takeWhile_append_of_pos (p := p) (l₁ := l.take k) (l₂ := l.drop k) (fun a ha => List.all_eq_true.1 h a ha); rw [List.take_append_drop] at this; exact this
  have hlen : (l.take k).length = k := (by rw [List.length_take]; omega); rcases hs with hs | ⟨c, r, hd, hc⟩
  · rw [e1, List.drop_eq_nil_of_le hs]; simp only [List.takeWhile_nil, List.append_nil]; exact hlen
  · rw [e1, hd, List.takeWhile_cons, hc]; simp only [Bool.false_eq_true, if_false, List.append_nil]; exact hlen
def tInt (n : Nat) (w : World) (e : Ending) (w' : World) : Prop := e = .returned (.int .i64 (n : Int)) ∧ Below w.heap.size w w'
theorem tInt_mk {n m : Nat} {w w' : World} (h : m = n) (hb : Below w.heap.size w w') : tInt n w (.returned (.int .i64 (m : Int))) w' := by subst h; exact ⟨rfl, hb⟩
theorem below_iter (w : World) (s : ByteArray) (pos : Nat) : Below w.heap.size w (w.iter s pos) := (Below.refl _ _).alloc (Nat.le_refl _) _
set_option maxRecDepth 100000 in
set_option maxHeartbeats 1000000 in
theorem spanWord (s : ByteArray) (w : World) :
    Calls Tryz.prog 190 #[.string s, .func (.func 191) #[] #[]] w (tInt (wordS s.data.toList).length w) := by
  go_enter Tryz.func190, Tryz.ntmps190
  go_wp2; go_loopw [5] (fun _ wr => ∃ pos : Nat, wr = w.iter s pos ∧ pos ≤ s.size ∧ (s.data.toList.take pos).all wrd = true) (fun _ wr => s.size - wr.iterPos w.heap.size)
  case atStart => exact ⟨0, rfl, Nat.zero_le _, rfl⟩
  case round =>
    obtain ⟨pos, rfl, hk, ha⟩ := hrel; have HA := Lib.hid ha; clear ha; by_cases hp : pos < s.size
    · by_cases h7 : s[pos].toNat < 128
      · have hnx : ∀ ty, (Instr.next (.pointer (some ⟨w.heap.size, 0, none⟩)) true ty).run Tryz.prog (w.iter s pos) = _ := (fun ty => run_next_ascii w s pos ty hp h7); have HW := Lib.hid (wrI_byte s[pos]); obtain ⟨c, hc⟩ : ∃ c : Int, (s[pos].toNat : Int) = c := ⟨_, rfl⟩; rw [hc] at HW hnx; clear hc; have IW : ∀ W, Calls Tryz.prog 191 #[.int .i32 c] W fun e w' => e = .returned (.bool (wrI c)) ∧ W = w' := fun W => inWord_any c W
        rw [HW.out] at IW; cases hw : wrd s[pos]
        · have HH := Lib.hid hw; rw [hw] at IW; clear hw; have IW := Lib.hid IW; go_wp2_with (go_at_call 191; refine (IW.out _).mono ?_; rintro e w' ⟨rfl, rfl⟩)
          go_ret; exact tInt_mk (takeWhile_at HA.out (.inr ⟨_, _, drop_cons s pos hp, HH.out⟩) (by rw [len_data]; omega)).symm (below_iter _ _ _)
        · have HH := Lib.hid hw; rw [hw] at IW; clear hw; have IW := Lib.hid IW; go_wp2_with (go_at_call 191; refine (IW.out _).mono ?_; rintro e w' ⟨rfl, rfl⟩)
          go_roundw
          case rel => exact ⟨pos + 1, rfl, by omega, by rw [take_snoc s pos hp, List.all_append, HA.out]; simp [HH.out]⟩
          case measure => simp; omega
      · have hnx : ∀ ty, (Instr.next (.pointer (some ⟨w.heap.size, 0, none⟩)) true ty).run Tryz.prog (w.iter s pos) = _ := (fun ty => run_next_any w s pos ty hp); have hR := decode_high s pos hp (by omega); have HH : Hid (wrd s[pos] = false) := Lib.hid (by rw [← wrI_byte]; exact wrI_high (by omega)); obtain ⟨R, hRR⟩ : ∃ R, (Utf8.decode s pos).1 = R := ⟨_, rfl⟩; obtain ⟨K, hKK⟩ : ∃ K, (Utf8.decode s pos).2 = K := ⟨_, rfl⟩; rw [hRR, hKK] at hnx; rw [hRR] at hR; have IW : ∀ W, Calls Tryz.prog 191 #[.int .i32 (R : Int)] W fun e w' => e = .returned (.bool (wrI R)) ∧ W = w' := fun W => inWord_any R W
        rw [wrI_high (by omega)] at IW; have IW := Lib.hid IW; clear hRR hKK hR h7; go_wp2_with (go_at_call 191; refine (IW.out _).mono ?_; rintro e w' ⟨rfl, rfl⟩)
        go_ret; exact tInt_mk (takeWhile_at HA.out (.inr ⟨_, _, drop_cons s pos hp, HH.out⟩) (by rw [len_data]; omega)).symm (below_iter _ _ _)
    · have hnx : ∀ ty, (Instr.next (.pointer (some ⟨w.heap.size, 0, none⟩)) true ty).run Tryz.prog (w.iter s pos) = _ := (fun ty => run_next_end w s pos ty hp); go_wp2; go_ret; exact tInt_mk (by rw [show s.size = pos by omega]; exact (takeWhile_at HA.out (.inl (by rw [len_data]; omega)) (by rw [len_data]; omega)).symm) (below_iter _ _ _)
end Go.Proofs.YtpejflgdehioaaaGreatDoor.LexW
namespace Go.Proofs.YtpejflgdehioaaaGreatDoor.PackW
open Go Go.RowKit Go.Proofs.YtpejflgdehioaaaGreatDoor.NumM
theorem take_snoc (s : ByteArray) (k : Nat) (h : k < s.size) : s.data.toList.take (k + 1) = s.data.toList.take k ++ [s[k]] := by
  rw [List.take_succ_eq_append_getElem (by simpa using h)]; rfl
theorem trim_any (s : ByteArray) (w : World) :
    Calls Tryz.prog 212 #[.string s, .string ⟨#[45]⟩] w fun e w' => ∃ d : ByteArray, e = .returned (.string d) ∧ d.data.toList = tl s.data.toList ∧ w = w' :=
  (Tryz.strings_TrimPrefix s ⟨#[45]⟩ w).mono fun _ _ ⟨he, hw⟩ => ⟨_, he, by rw [← trim_eq], hw.symm⟩
theorem ret2 {a b c d : Int} (h : (a, b) = (c, d)) : Ending.returned (.tuple #[.int .i64 a, .int .i64 b]) = Ending.returned (.tuple #[.int .i64 c, .int .i64 d]) := by
  cases h; rfl
theorem retb {a b : Bool} (h : a = b) : Ending.returned (.bool a) = .returned (.bool b) := by rw [h]
def parsed (l : List UInt8) (w : World) (e : Ending) (w' : World) : Prop := e = .returned (.tuple #[.int .i64 (parseS l).1, .int .i64 (parseS l).2]) ∧ Below w.heap.size w w'
set_option maxHeartbeats 400000 in
theorem parseCode_yes (s : ByteArray) (w : World) (hs : s.size ≤ 140737488351232) (tp : TypeId) (p : Value) (hvar : w.var? Tryz.prog "strconv.ErrRange" = some #[.iface tp p]) (hdec : isDec s.data.toList = true) :
    Calls Tryz.prog 206 #[.string s] w (parsed s.data.toList w) := by
  have parts := isDec_parts hdec; have p1 := Lib.hid parts.1; have p2 := Lib.hid parts.2.1; have p3 := Lib.hid parts.2.2; have HV := Lib.hid hvar; have HDEC := Lib.hid hdec; clear parts hvar hdec
  go_enter Tryz.func206, Tryz.ntmps206
  go_wp2
  go_step3
  go_wp2_with (go_at_call 212; refine (trim_any _ _).mono ?_; rintro e w' ⟨d, rfl, hd, rfl⟩)
  have HD := Lib.hid hd; clear hd; have hl1 : d.size ≤ s.size := by
    have := tl_length s.data.toList; rw [← HD.out] at this
    simpa using this
  have hl2 : 0 < d.size := by
    have := p2.out; rw [← HD.out] at this; have h : 0 < d.data.toList.length := List.length_pos_iff.2 this
    simpa using h
  go_step3
  go_wp2; go_loop [5, 6, 18, 25] (fun i _ _ _ => ∃ k : Nat, k ≤ d.size ∧ i = .int .i64 k) (fun i _ _ _ => d.size - (intOf i).toNat)
  case atStart => exact ⟨0, Nat.zero_le _, rfl⟩
  case round =>
    obtain ⟨k, hk, rfl⟩ := hrel; by_cases hlt : k < d.size
    · have g := dgt_at HD.out p1.out hlt; have g3 : (48 : Int) ≤ (d[k].toNat : Int) := (by omega); have g4 : (d[k].toNat : Int) ≤ 57 := (by omega); clear g; by_cases c0 : d[k].toNat = 48
      · by_cases k0 : k = 0
        · subst k0; have hz : (!s.toList == [48]) = false := str_no (p3.out (by rw [head_at HD.out hlt, show d[0] = 48 from by rw [← UInt8.toNat_inj, c0]; rfl])); have c1 : ((d[0].toNat : Int) == 48) = true := (by simp; omega); clear c0; go_wp2; go_round
          case rel => exact ⟨1, by omega, rfl⟩
          case measure => simp [intOf]; omega
        · have k1 : ((k : Int) == 0) = false := (by simpa using k0); have c1 : ((d[k].toNat : Int) == 48) = true := (by simp; omega); clear c0; go_wp2; go_round
          case rel => exact ⟨k + 1, by omega, by go_num⟩
          case measure => simp [intOf]; omega
      · have c1 : ((d[k].toNat : Int) == 48) = false := (by simp; omega); clear c0; go_wp2; go_round
        case rel => exact ⟨k + 1, by omega, by go_num⟩
        case measure => simp [intOf]; omega
    · have k1 : ((k : Int) == 0) = false := (by simp; omega); by_cases g : okI (valS s.data.toList) = true
      · go_wp2_with (go_at_call 197; refine (Tryz.strconv_Atoi_ok _ (by omega) (valS s.data.toList) (by rw [atoi_eq HDEC.out, if_pos g]) _).mono ?_; rintro e w' ⟨rfl, hw⟩)
        go_ret2; exact ⟨ret2 (by rw [parseS, HDEC.out, if_pos rfl, lim_ok g]), by rcases hw with rfl | ⟨t, rfl⟩; exact Below.refl _ _; exact Joins.below_bytesWorld _ _ _ _ (Nat.le_refl _)⟩
      · have g' : okI (valS s.data.toList) = false := (by simpa using g); clear g; go_wp2_with (go_at_call 197; refine (Tryz.strconv_Atoi_range_var _ (by omega) (by rw [atoi_eq HDEC.out, g']; rfl) tp p _ HV.out).mono ?_; rintro e w' ⟨N, rfl, -, -, hw⟩)
        go_ret2; exact ⟨ret2 (by rw [parseS, HDEC.out, if_pos rfl, lim_no g']), hw⟩
set_option maxHeartbeats 400000 in
theorem parseCode_no (s : ByteArray) (w : World) (hs : s.size ≤ 140737488351232) (hdec : isDec s.data.toList = false) :
    Calls Tryz.prog 206 #[.string s] w (parsed s.data.toList w) := by
  have fin : ∀ W : World, W = w → parsed s.data.toList w (.returned (.tuple #[.int .i64 0, .int .i64 5])) W := by
    rintro W rfl; exact ⟨by rw [parseS, hdec]; rfl, Below.refl _ _⟩
  have FIN := Lib.hid fin; have HDEC := Lib.hid hdec; clear fin hdec
  go_enter Tryz.func206, Tryz.ntmps206
  go_wp2
  go_step3
  go_wp2_with (go_at_call 212; refine (trim_any _ _).mono ?_; rintro e w' ⟨d, rfl, hd, rfl⟩)
  have HD := Lib.hid hd; clear hd; have hl1 : d.size ≤ s.size := by
    have := tl_length s.data.toList; rw [← HD.out] at this
    simpa using this
  go_step3
  go_wp2; go_loop [5, 6, 18, 25] (fun i _ _ _ => ∃ k : Nat, k ≤ d.size ∧ i = .int .i64 k ∧ (d.data.toList.take k).all dgt = true ∧ (1 ≤ k → ¬ (d.data.toList.head? = some 48 ∧ s.data.toList ≠ [48]))) (fun i _ _ _ => d.size - (intOf i).toNat)
  case atStart => exact ⟨0, Nat.zero_le _, rfl, by simp, by omega⟩
  case round =>
    obtain ⟨k, hk, rfl, ha, hb⟩ := hrel; have HA := Lib.hid ha; have HB := Lib.hid hb; clear ha hb; by_cases hlt : k < d.size
    · by_cases g : dgt d[k] = true
      · have g2 := dgt_iff.1 g; have g3 : (48 : Int) ≤ (d[k].toNat : Int) := (by omega); have g4 : (d[k].toNat : Int) ≤ 57 := (by omega); have G := Lib.hid g; clear g g2; have HA1 : Hid ((d.data.toList.take (k + 1)).all dgt = true) := Lib.hid (by rw [take_snoc d k hlt, List.all_append, HA.out]; simp [G.out]); by_cases c0 : d[k].toNat = 48
        · by_cases k0 : k = 0
          · subst k0; have c1 : ((d[0].toNat : Int) == 48) = true := (by simp; omega); have C0 := Lib.hid c0; clear c0; by_cases hs48 : s.data.toList = [48]
            · have hz : (!s.toList == [48]) = false := str_no hs48; have HS := Lib.hid hs48; clear hs48; go_wp2; go_round
              case rel => exact ⟨1, by omega, rfl, HA1.out, fun _ x => x.2 HS.out⟩
              case measure => simp [intOf]; omega
            · have hz : (!s.toList == [48]) = true := str_yes hs48; clear hs48; go_wp2; go_ret2; exact FIN.out _ rfl
          · have k1 : ((k : Int) == 0) = false := (by simpa using k0); have c1 : ((d[k].toNat : Int) == 48) = true := (by simp; omega); clear c0; go_wp2; go_round
            case rel => exact ⟨k + 1, by omega, by go_num, HA1.out, fun _ => HB.out (by omega)⟩
            case measure => simp [intOf]; omega
        · have c1 : ((d[k].toNat : Int) == 48) = false := (by simp; omega); have C0 := Lib.hid c0; clear c0; go_wp2; go_round
          case rel => exact ⟨k + 1, by omega, by go_num, HA1.out, fun _ x => (by
            by_cases k0 : k = 0
            · subst k0; have e := x.1; rw [HD.out, head_at HD.out hlt] at e; exact C0.out (by rw [Option.some.inj e]; rfl)
            · exact HB.out (by omega) x)⟩
          case measure => simp [intOf]; omega
      · have g2 : (d[k].toNat : Int) < 48 ∨ 57 < (d[k].toNat : Int) := by
          rw [dgt_iff] at g; omega
        clear g; by_cases k0 : k = 0
        · subst k0; rcases g2 with g2 | g2
          all_goals
            go_wp2; go_ret2; exact FIN.out _ rfl
        · have k1 : ((k : Int) == 0) = false := (by simpa using k0); rcases g2 with g2 | g2
          all_goals
            go_wp2; go_ret2; exact FIN.out _ rfl
    · have k0 : k = 0 := by
        apply Classical.byContradiction; intro x; have e := HA.out; rw [show k = d.size by omega, List.take_of_length_le (by simp), HD.out] at e; have b := HB.out (by omega); rw [HD.out] at b; have hne : tl s.data.toList ≠ [] := by
          rw [← HD.out]; intro y; have h0 : d.data.toList.length = d.size := (by simp); rw [y] at h0; simp at h0; omega
        have c := isDec_of e hne b; rw [HDEC.out] at c; cases c
      subst k0; go_wp2; go_ret2; exact FIN.out _ rfl
theorem parseCode_any (s : ByteArray) (w : World) (hs : s.size ≤ 140737488351232) (tp : TypeId) (p : Value) (hvar : w.var? Tryz.prog "strconv.ErrRange" = some #[.iface tp p]) :
    Calls Tryz.prog 206 #[.string s] w (parsed s.data.toList w) := by
  cases h : isDec s.data.toList
  · exact parseCode_no s w hs h
  · exact parseCode_yes s w hs tp p hvar h
end Go.Proofs.YtpejflgdehioaaaGreatDoor.PackW
namespace Go.Proofs.YtpejflgdehioaaaGreatDoor.LexW
open Go Go.RowKit Go.Proofs.YtpejflgdehioaaaGreatDoor.NumM Go.Proofs.YtpejflgdehioaaaGreatDoor.LexM
structure Tab (w : World) : Prop where
  range : ∃ tp p, w.var? Tryz.prog "strconv.ErrRange" = some #[.iface tp p]
theorem gRange : Tryz.prog.globalNamed "strconv.ErrRange" = some 2 := by kernel_rfl
theorem var_later {n : String} {g : Nat} {cs : Array Value} {w w' : World} (hg : Tryz.prog.globalNamed n = some g) (h : w.var? Tryz.prog n = some cs) (hb : Below w.heap.size w w') : w'.var? Tryz.prog n = some cs := by
  by_cases hlt : g < w.heap.size
  · exact var?_below hb hg hlt h
  · unfold World.var? at h; simp only [hg, Option.bind_some] at h; rw [Array.getElem?_eq_none (by omega)] at h; cases h
theorem Tab.later {w w' : World} (h : Tab w) (hb : Below w.heap.size w w') : Tab w' :=
  ⟨by obtain ⟨tp, p, hr⟩ := h.range; exact ⟨tp, p, var_later gRange hr hb⟩⟩
theorem _root_.Go.RowKit.Below.then_ {a b c : World} (h1 : Below a.heap.size a b) (h2 : Below b.heap.size b c) : Below a.heap.size a c := h1.trans (h2.mono h1.size)
abbrev bs (l : List UInt8) : ByteArray := ⟨l.toArray⟩
theorem bs_data (s : ByteArray) : bs s.data.toList = s := rfl
theorem bs_inj {a b : ByteArray} (h : a.data.toList = b.data.toList) : a = b := by rw [← bs_data a, ← bs_data b, h]
theorem ext_data (s : ByteArray) (a e : Nat) : (s.extract a e).data.toList = (s.data.toList.drop a).take (e - a) := by
  simp [ByteArray.data_extract, Array.toList_extract]
abbrev tv (k n : Int) (x : ByteArray) (ln : Int) : Value := .agg #[.int .i64 k, .int .i64 n, .string x, .int .i64 ln]
def tvT (t : Tk) : Value := tv t.kind t.n (bs t.text) t.line
theorem alloc_cells (w : World) (xs : Array Value) (t : TypeId) (i : Nat) (v : Value) (h : xs[i]? = some v) : (w.alloc (.cells xs t)).cell? ⟨w.heap.size, i, none⟩ = some v ∧ (w.alloc (.cells xs t)).frozen? ⟨w.heap.size, i, none⟩ = false := by
  have hb : (w.alloc (.cells xs t)).heap[w.heap.size]? = some (.cells xs t) := heap_alloc_new _ _; constructor
  · simp only [World.cell?, hb]; simpa using h
  · simp only [World.frozen?, hb]; simp
theorem cell_set {w : World} {g o : Nat} {x y : Value} (h : w.cell? ⟨g, o, none⟩ = some y) : (w.setCell ⟨g, o, none⟩ x).cell? ⟨g, o, none⟩ = some x := by
  simp [World.cell?_setCell_same, h]
theorem setCell_size (w : World) (a : Addr) (v : Value) : (w.setCell a v).heap.size = w.heap.size := by simp [World.setCell]
structure Four (w : World) (g : Nat) (x0 x1 x2 x3 : Value) : Prop where
  lt : g < w.heap.size
  c0 : w.cell? ⟨g, 0, none⟩ = some x0
  c1 : w.cell? ⟨g, 1, none⟩ = some x1
  c2 : w.cell? ⟨g, 2, none⟩ = some x2
  c3 : w.cell? ⟨g, 3, none⟩ = some x3
  f0 : w.frozen? ⟨g, 0, none⟩ = false
  f1 : w.frozen? ⟨g, 1, none⟩ = false
  f2 : w.frozen? ⟨g, 2, none⟩ = false
  f3 : w.frozen? ⟨g, 3, none⟩ = false
section
variable {w W0 : World} {g : Nat} {x0 x1 x2 x3 : Value}
theorem Four.new (w : World) (x0 x1 x2 x3 : Value) (t : TypeId) : Four (w.alloc (.cells #[x0, x1, x2, x3] t)) w.heap.size x0 x1 x2 x3 :=
  ⟨by simp, (alloc_cells w #[x0, x1, x2, x3] t 0 x0 rfl).1, (alloc_cells w #[x0, x1, x2, x3] t 1 x1 rfl).1, (alloc_cells w #[x0, x1, x2, x3] t 2 x2 rfl).1, (alloc_cells w #[x0, x1, x2, x3] t 3 x3 rfl).1, (alloc_cells w #[x0, x1, x2, x3] t 0 x0 rfl).2, (alloc_cells w #[x0, x1, x2, x3] t 1 x1 rfl).2, (alloc_cells w #[x0, x1, x2, x3] t 2 x2 rfl).2, (alloc_cells w #[x0, x1, x2, x3] t 3 x3 rfl).2⟩
theorem Four.at_ (hg : w.heap.size = g) (x0 x1 x2 x3 : Value) (t : TypeId) : Four (w.alloc (.cells #[x0, x1, x2, x3] t)) g x0 x1 x2 x3 := by subst hg; exact Four.new w x0 x1 x2 x3 t
theorem Four.stay (h : Four W0 g x0 x1 x2 x3) (hb : Below W0.heap.size W0 w) : Four w g x0 x1 x2 x3 :=
  ⟨Nat.lt_of_lt_of_le h.lt hb.size, (hb.cell (p := ⟨g, 0, none⟩) h.lt).trans h.c0, (hb.cell (p := ⟨g, 1, none⟩) h.lt).trans h.c1, (hb.cell (p := ⟨g, 2, none⟩) h.lt).trans h.c2, (hb.cell (p := ⟨g, 3, none⟩) h.lt).trans h.c3,
   (hb.frozen (p := ⟨g, 0, none⟩) h.lt).trans h.f0, (hb.frozen (p := ⟨g, 1, none⟩) h.lt).trans h.f1, (hb.frozen (p := ⟨g, 2, none⟩) h.lt).trans h.f2, (hb.frozen (p := ⟨g, 3, none⟩) h.lt).trans h.f3⟩
theorem Four.alloc (h : Four w g x0 x1 x2 x3) (o : Obj) : Four (w.alloc o) g x0 x1 x2 x3 := h.stay ((Below.refl _ _).alloc (Nat.le_refl _) _)
theorem Four.drew (h : Four w g x0 x1 x2 x3) : Four w.drew g x0 x1 x2 x3 := h.stay (Below.refl _ _).drew
theorem Four.far {b o : Nat} {v : Value} (h : Four w g x0 x1 x2 x3) (hn : g ≠ b) : Four (w.setCell ⟨b, o, none⟩ v) g x0 x1 x2 x3 := by
  have c : ∀ i, (w.setCell ⟨b, o, none⟩ v).cell? ⟨g, i, none⟩ = w.cell? ⟨g, i, none⟩ := (fun i => World.cell?_setCell_other _ _ _ _ (fun e => hn (congrArg Addr.block e).symm)); exact ⟨by rw [setCell_size]; exact h.lt, by rw [c]; exact h.c0, by rw [c]; exact h.c1, by rw [c]; exact h.c2, by rw [c]; exact h.c3, by rw [World.frozen?_setCell]; exact h.f0, by rw [World.frozen?_setCell]; exact h.f1, by rw [World.frozen?_setCell]; exact h.f2, by rw [World.frozen?_setCell]; exact h.f3⟩
theorem other (w : World) {g i j : Nat} (v : Value) (hij : i ≠ j) : (w.setCell ⟨g, i, none⟩ v).cell? ⟨g, j, none⟩ = w.cell? ⟨g, j, none⟩ := World.cell?_setCell_other _ _ _ _ (fun e => hij (congrArg Addr.off e))
theorem Four.set3 (h : Four w g x0 x1 x2 x3) (v : Value) : Four (w.setCell ⟨g, 3, none⟩ v) g x0 x1 x2 v :=
  ⟨by rw [setCell_size]; exact h.lt, by rw [other _ _ (by decide)]; exact h.c0, by rw [other _ _ (by decide)]; exact h.c1, by rw [other _ _ (by decide)]; exact h.c2, cell_set h.c3, by rw [World.frozen?_setCell]; exact h.f0, by rw [World.frozen?_setCell]; exact h.f1, by rw [World.frozen?_setCell]; exact h.f2, by rw [World.frozen?_setCell]; exact h.f3⟩
theorem Four.put (h : Four w g x0 x1 x2 x3) (y0 y1 y2 y3 : Value) : Four ((((w.setCell ⟨g, 0, none⟩ y0).setCell ⟨g, 1, none⟩ y1).setCell ⟨g, 2, none⟩ y2).setCell ⟨g, 3, none⟩ y3) g y0 y1 y2 y3 := by
  have s0 : Four (w.setCell ⟨g, 0, none⟩ y0) g y0 x1 x2 x3 := ⟨by rw [setCell_size]; exact h.lt, cell_set h.c0, by rw [other _ _ (by decide)]; exact h.c1, by rw [other _ _ (by decide)]; exact h.c2, by rw [other _ _ (by decide)]; exact h.c3, by rw [World.frozen?_setCell]; exact h.f0, by rw [World.frozen?_setCell]; exact h.f1, by rw [World.frozen?_setCell]; exact h.f2, by rw [World.frozen?_setCell]; exact h.f3⟩; have s1 : Four ((w.setCell ⟨g, 0, none⟩ y0).setCell ⟨g, 1, none⟩ y1) g y0 y1 x2 x3 := ⟨by rw [setCell_size]; exact s0.lt, by rw [other _ _ (by decide)]; exact s0.c0, cell_set s0.c1, by rw [other _ _ (by decide)]; exact s0.c2, by rw [other _ _ (by decide)]; exact s0.c3, by rw [World.frozen?_setCell]; exact s0.f0, by rw [World.frozen?_setCell]; exact s0.f1, by rw [World.frozen?_setCell]; exact s0.f2, by rw [World.frozen?_setCell]; exact s0.f3⟩; have s2 : Four (((w.setCell ⟨g, 0, none⟩ y0).setCell ⟨g, 1, none⟩ y1).setCell ⟨g, 2, none⟩ y2) g y0 y1 y2 x3 := ⟨by rw [setCell_size]; exact s1.lt, by rw [other _ _ (by decide)]; exact s1.c0, by rw [other _ _ (by decide)]; exact s1.c1, cell_set s1.c2, by rw [other _ _ (by decide)]; exact s1.c3, by rw [World.frozen?_setCell]; exact s1.f0, by rw [World.frozen?_setCell]; exact s1.f1, by rw [World.frozen?_setCell]; exact s1.f2, by rw [World.frozen?_setCell]; exact s1.f3⟩; exact s2.set3 y3
theorem below_put (h : Below W0.heap.size W0 w) (hg : W0.heap.size ≤ g) (y0 y1 y2 y3 : Value) : Below W0.heap.size W0 ((((w.setCell ⟨g, 0, none⟩ y0).setCell ⟨g, 1, none⟩ y1).setCell ⟨g, 2, none⟩ y2).setCell ⟨g, 3, none⟩ y3) :=
  (((h.setCell hg _).setCell hg _).setCell hg _).setCell hg _
end
def tTok (w : World) (r : Tk × Int) (e : Ending) (w' : World) : Prop := e = .returned (.tuple #[tv r.1.kind r.1.n (bs r.1.text) 0, .int .i64 r.2]) ∧ Below w.heap.size w w'
theorem tTok_mk {w w' : World} {k n er : Int} {x : ByteArray} {r : Tk × Int} (h : r = (⟨k, n, x.data.toList, 0⟩, er)) (hb : Below w.heap.size w w') : tTok w r (.returned (.tuple #[tv k n x 0, .int .i64 er])) w' := by
  subst h; exact ⟨rfl, hb⟩
set_option maxRecDepth 100000 in
theorem word_any (s : ByteArray) (w : World) (hs : s.size ≤ 140737488351232) : Calls Tryz.prog 194 #[.string s] w (tTok w (nameT s.data.toList)) := by
  have hl := len_data s; by_cases h : 16 < s.size
  · have E : Hid (nameT s.data.toList = (⟨0, 0, (⟨#[]⟩ : ByteArray).data.toList, 0⟩, 2)) := Lib.hid (by rw [nameT, if_pos (by omega)]; rfl); clear hl
    go_enter Tryz.func194, Tryz.ntmps194
    go_wp2; refine bodyPost_ret (v := .tuple #[tv 0 0 ⟨#[]⟩ 0, .int .i64 2]) (by simp [results, Tryz.results194, go_sem]) rfl ?_; exact tTok_mk E.out ((Below.refl _ _).alloc (Nat.le_refl _) _)
  · have KW : ∀ W, Calls Tryz.prog 205 #[.string s] W fun e w' => e = .returned (.bool (isKw s.data.toList)) ∧ W = w' := fun W => isKeyword_any s W
    cases hk : isKw s.data.toList
    · have E : Hid (nameT s.data.toList = (⟨1, 0, s.data.toList, 0⟩, 0)) := Lib.hid (by rw [nameT, if_neg (by omega), hk]; rfl); rw [hk] at KW; have KW := Lib.hid KW; clear hl hk
      go_enter Tryz.func194, Tryz.ntmps194
      go_wp2_with (go_at_call 205; ((with_reducible refine (KW.out _).mono ?_); rintro e w' ⟨rfl, rfl⟩))
      refine bodyPost_ret (v := .tuple #[tv 1 0 s 0, .int .i64 0]) (by simp [results, Tryz.results194, go_sem]) rfl ?_; exact tTok_mk E.out ((Below.refl _ _).alloc (Nat.le_refl _) _)
    · have E : Hid (nameT s.data.toList = (⟨2, 0, s.data.toList, 0⟩, 0)) := Lib.hid (by rw [nameT, if_neg (by omega), hk]; rfl); rw [hk] at KW; have KW := Lib.hid KW; clear hl hk
      go_enter Tryz.func194, Tryz.ntmps194
      go_wp2_with (go_at_call 205; ((with_reducible refine (KW.out _).mono ?_); rintro e w' ⟨rfl, rfl⟩))
      refine bodyPost_ret (v := .tuple #[tv 2 0 s 0, .int .i64 0]) (by simp [results, Tryz.results194, go_sem]) rfl ?_; exact tTok_mk E.out ((Below.refl _ _).alloc (Nat.le_refl _) _)
end Go.Proofs.YtpejflgdehioaaaGreatDoor.LexW
