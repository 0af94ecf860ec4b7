/-
  Laws that the card uses; no conditions beside those that each states (NumMath NumText LexMath LexBest ClMath WordMath ExMath ExVal ExFold ItMath ItCntM LexSmall ExLexSpan).
-/
import Derived.IntWalk
import Derived.Laws.Bits64
import Derived.Lib.ItoaNum
import Derived.Lib.AtoiAll
import Derived.Lib.Strings
import Derived.Lib.Tables
import Derived.Laws.BitsAllLaws
import Derived.Test.YtpejflgdehioaaaGreatDoorRows
import Derived.WalkKit
import Derived.Outline
import Derived.WalkSpells
import Derived.Deep.DeepFit
import Derived.Lib.Hide
import Derived.LoopTactic
import Derived.Deep.QuietTactic
import Derived.BigQuiet
import Derived.Lib.MapLaws
import Derived.Laws.RangeAny
namespace Go.Proofs.YtpejflgdehioaaaGreatDoor.NumM
open Go Go.RowKit
def okI (x : Int) : Bool := decide (-9223372036854775808 ≤ x ∧ x ≤ 9223372036854775807)
def lim (x : Int) : Int × Int := if okI x then (x, 0) else (0, 3)
theorem okI_iff {x : Int} : okI x = true ↔ -9223372036854775808 ≤ x ∧ x ≤ 9223372036854775807 := by simp [okI]
theorem okI_no {x : Int} : okI x = false ↔ x < -9223372036854775808 ∨ 9223372036854775807 < x := by
  unfold okI; rw [decide_eq_false_iff_not]; omega
theorem lim_ok {x : Int} (h : okI x = true) : lim x = (x, 0) := by simp [lim, h]
theorem lim_no {x : Int} (h : okI x = false) : lim x = (0, 3) := by simp [lim, h]
def dgt (c : UInt8) : Bool := decide (48 ≤ c.toNat) && decide (c.toNat ≤ 57)
def minus (l : List UInt8) : Bool := l.head? == some 45
def tl (l : List UInt8) : List UInt8 := if minus l then l.tail else l
def vl (acc : Nat) (l : List UInt8) : Nat := l.foldl (fun a c => a * 10 + (c.toNat - 48)) acc
def isDec (l : List UInt8) : Bool := (tl l).all dgt && !(tl l).isEmpty && !((tl l).head? == some 48 && !(l == [48]))
def valS (l : List UInt8) : Int := if minus l then -(vl 0 (tl l) : Int) else (vl 0 (tl l) : Int)
def parseS (l : List UInt8) : Int × Int := if isDec l then lim (valS l) else (0, 5)
theorem trim_eq (l : List UInt8) : Lib.trimPrefix l [45] = tl l := by
  unfold Lib.trimPrefix tl minus Lib.hasPrefix; cases l with
  | nil => rfl
  | cons c r =>
    by_cases h : c = 45
    · subst h; simp
    · simp [h, show ¬ 45 = c from fun x => h x.symm]
theorem vl_nil (acc : Nat) : vl acc [] = acc := List.foldl_nil
theorem vl_cons (acc : Nat) (c : UInt8) (r : List UInt8) : vl acc (c :: r) = vl (acc * 10 + (c.toNat - 48)) r := List.foldl_cons ..
theorem vl_ge (l : List UInt8) (acc : Nat) : acc ≤ vl acc l := by
  induction l generalizing acc with
  | nil => exact Nat.le_refl _
  | cons d r ih =>
    have := ih (acc * 10 + (d.toNat - 48)); rw [vl_cons]; omega
theorem dgt_iff {c : UInt8} : dgt c = true ↔ 48 ≤ c.toNat ∧ c.toNat ≤ 57 := by simp [dgt]
theorem tl_length (l : List UInt8) : (tl l).length ≤ l.length := by
  unfold tl; split
  · rw [List.length_tail]; omega
  · exact Nat.le_refl _
theorem dgt_at {d : ByteArray} {l : List UInt8} (hd : d.data.toList = tl l) (h : (tl l).all dgt = true) {k : Nat} (hk : k < d.size) :
    48 ≤ d[k].toNat ∧ d[k].toNat ≤ 57 := by
  rw [← hd] at h; have hm : d[k] ∈ d.data.toList := by
    have : d.data.toList[k]'(by simpa using hk) = d[k] := rfl; rw [← this]; exact List.getElem_mem _
  exact dgt_iff.1 (List.all_eq_true.1 h _ hm)
theorem head_at {d : ByteArray} {l : List UInt8} (hd : d.data.toList = tl l) (hk : 0 < d.size) : (tl l).head? = some d[0] := by
  rw [← hd]; have h : 0 < d.data.toList.length := (by simpa using hk); rw [List.head?_eq_getElem?, List.getElem?_eq_getElem h]; rfl
theorem str_no {s : ByteArray} (h : s.data.toList = [48]) : (!s.toList == [48]) = false := by rw [Lib.toList_data, h]; rfl
theorem str_yes {s : ByteArray} (h : s.data.toList ≠ [48]) : (!s.toList == [48]) = true := by rw [Lib.toList_data]; simpa using h
theorem isDec_of {l : List UInt8} (h1 : (tl l).all dgt = true) (h2 : tl l ≠ []) (h3 : ¬ ((tl l).head? = some 48 ∧ l ≠ [48])) : isDec l = true := by
  unfold isDec; rw [h1]; by_cases a : (tl l).head? = some 48
  · have b : l = [48] := by
      apply Classical.byContradiction; intro x; exact h3 ⟨a, x⟩
    subst b; decide
  · simp [h2, a]
theorem parseUint10_eq (l : List UInt8) : ∀ acc : Nat, l.all dgt = true → acc < 18446744073709551616 →
    Lib.parseUint10 acc l = if vl acc l < 18446744073709551616 then .ok (vl acc l) else .range := by
  induction l with
  | nil => intro acc _ ha; rw [vl_nil, if_pos ha]; rfl
  | cons c r ih =>
    intro acc hd ha; simp only [List.all_cons, Bool.and_eq_true] at hd; have hc := dgt_iff.1 hd.1; simp only [Lib.parseUint10, hc, and_self, if_true]; rw [vl_cons]; have hg := vl_ge r (acc * 10 + (c.toNat - 48)); by_cases h1 : 1844674407370955162 ≤ acc
    · rw [if_pos h1, if_neg (by omega)]
    · rw [if_neg h1]; by_cases h2 : 18446744073709551616 ≤ acc * 10 + (c.toNat - 48)
      · rw [if_pos h2, if_neg (by omega)]
      · rw [if_neg h2]; exact ih _ hd.2 (by omega)
theorem isDec_parts {l : List UInt8} (h : isDec l = true) : (tl l).all dgt = true ∧ tl l ≠ [] ∧ ((tl l).head? = some 48 → l = [48]) := by
  unfold isDec at h; simp only [Bool.and_eq_true, Bool.not_eq_true', List.isEmpty_eq_false_iff, Bool.and_eq_false_iff, beq_eq_false_iff_ne, ne_eq, Bool.not_eq_false', beq_iff_eq] at h; exact ⟨h.1.1, h.1.2, fun x => by rcases h.2 with y | y; exact absurd x y; exact y⟩
theorem parseMag_eq {t : List UInt8} (h : t.all dgt = true) (hn : t ≠ []) :
    Lib.parseMag t = if vl 0 t < 18446744073709551616 then .ok (vl 0 t) else .range := by
  unfold Lib.parseMag; rw [if_neg hn]; exact parseUint10_eq t 0 h (by decide)
theorem atoi_eq {l : List UInt8} (h : isDec l = true) : Lib.atoiAll l = if okI (valS l) then .ok (valS l) else .range := by
  obtain ⟨hd, hn, _⟩ := isDec_parts h; cases l with
  | nil => exact absurd rfl hn
  | cons c r =>
    by_cases hm : c = 45
    · subst hm; have e : tl (45 :: r) = r := rfl; have m : minus (45 :: r) = true := rfl; rw [e] at hd hn; simp only [Lib.atoiAll, valS, m, e, if_true]; rw [if_pos (by right; rfl), parseMag_eq hd hn]; by_cases h1 : vl 0 r < 18446744073709551616
      · rw [if_pos h1]; by_cases h2 : 9223372036854775808 < vl 0 r
        · rw [show okI (-(vl 0 r : Int)) = false from okI_no.2 (by omega)]; simp [h2]
        · rw [show okI (-(vl 0 r : Int)) = true from okI_iff.2 (by omega)]; simp [h2]
      · rw [if_neg h1, show okI (-(vl 0 r : Int)) = false from okI_no.2 (by omega)]; rfl
    · have e : tl (c :: r) = c :: r := (by simp [tl, minus, hm]); have m : minus (c :: r) = false := (by simp [minus, hm]); have hc : ¬ c.toNat = 45 := (fun x => hm (by rw [← UInt8.toNat_inj, x]; rfl)); rw [e] at hd hn; have hc2 := (dgt_iff.1 (by simp only [List.all_cons, Bool.and_eq_true] at hd; exact hd.1 : dgt c = true)).1; simp only [Lib.atoiAll, valS, m, e, Bool.false_eq_true, if_false]; rw [if_neg (by omega), parseMag_eq hd hn]; by_cases h1 : vl 0 (c :: r) < 18446744073709551616
      · rw [if_pos h1]; by_cases h2 : 9223372036854775808 ≤ vl 0 (c :: r)
        · rw [show okI ((vl 0 (c :: r) : Nat) : Int) = false from okI_no.2 (by omega)]; simp [h2, hc]
        · rw [show okI ((vl 0 (c :: r) : Nat) : Int) = true from okI_iff.2 (by omega)]; simp [h2, hc]
      · rw [if_neg h1, show okI ((vl 0 (c :: r) : Nat) : Int) = false from okI_no.2 (by omega)]; rfl
end Go.Proofs.YtpejflgdehioaaaGreatDoor.NumM
namespace Go.Proofs.YtpejflgdehioaaaGreatDoor.LexM
open Go Go.RowKit Go.Proofs.YtpejflgdehioaaaGreatDoor.NumM
def sml (c : UInt8) : Bool := decide (97 ≤ c.toNat) && decide (c.toNat ≤ 122)
def capl (c : UInt8) : Bool := decide (65 ≤ c.toNat) && decide (c.toNat ≤ 90)
def wrd (c : UInt8) : Bool := sml c || dgt c || capl c || decide (c.toNat = 95)
def kws : List (List UInt8) := [[99, 108, 97, 115, 115], [101, 120, 116, 101, 110, 100, 115], [114, 97, 110, 100], [114, 97, 110, 100, 99], [115, 116, 97, 116, 101], [99, 111, 110, 115, 116, 114, 97, 105, 110, 116], [115, 111, 102, 116], [100, 105, 115, 116], [105, 102], [101, 108, 115, 101], [101, 97, 99, 104], [105, 110], [115, 111, 108, 118, 101], [98, 101, 102, 111, 114, 101], [105, 110, 115, 105, 100, 101], [112, 114, 111, 112, 101, 114, 116, 121], [115, 101, 113], [97, 110, 100], [111, 114], [110, 111, 116], [115, 101, 116], [104, 111, 108, 100], [112, 108, 97, 105, 110], [114, 101, 112, 101, 97, 116]]
def mks : List (List UInt8) := [[40], [41], [123], [125], [91], [93], [44], [59], [58], [46, 46], [63], [61], [61, 61], [33, 61], [60], [60, 61], [62], [62, 61], [60, 60], [62, 62], [43], [45], [42], [38], [124], [94], [126], [33], [38, 38], [124, 124], [45, 62], [61, 62], [58, 61], [58, 47], [35, 35], [64]]
def isKw (l : List UInt8) : Bool := decide (l ∈ kws)
def isMk (l : List UInt8) : Bool := decide (l ∈ mks)
structure Tk where
  kind : Int
  n : Int
  text : List UInt8
  line : Int
def zTk : Tk := ⟨0, 0, [], 0⟩
def Tk.at (t : Tk) (ln : Int) : Tk := ⟨t.kind, t.n, t.text, ln⟩
def wordS (l : List UInt8) : List UInt8 := l.takeWhile wrd
def markT (l : List UInt8) : Tk × Int := if isMk (l.take 2) then (⟨4, 0, l.take 2, 0⟩, 0) else if isMk (l.take 1) then (⟨4, 0, l.take 1, 0⟩, 0) else (zTk, 5)
def nameT (t : List UInt8) : Tk × Int := if 16 < t.length then (zTk, 2) else (⟨if isKw t then 2 else 1, 0, t, 0⟩, 0)
def numT (t : List UInt8) : Tk × Int := if (parseS t).2 = 0 then (if 2147483647 < (parseS t).1 then (zTk, 3) else (⟨3, (parseS t).1, t, 0⟩, 0)) else (zTk, (parseS t).2)
def firstS (l : List UInt8) : Tk × Int := match wordS l with | [] => markT l | c :: r => if sml c then nameT (c :: r) else if dgt c then numT (c :: r) else (zTk, 5)
theorem mk_facts : ∀ m ∈ mks, m ≠ [] ∧ m.length ≤ 2 ∧ m.head? ≠ some 47 ∧ (m.all fun c => !wrd c && decide (c.toNat ≠ 10 ∧ c.toNat ≠ 32 ∧ c.toNat ≠ 9 ∧ c.toNat < 128)) = true := by decide
theorem mk_byte {m : List UInt8} (h : isMk m = true) {c : UInt8} (hc : c ∈ m) : wrd c = false ∧ c.toNat ≠ 10 ∧ c.toNat ≠ 32 ∧ c.toNat ≠ 9 ∧ c.toNat < 128 := by
  have := List.all_eq_true.1 (mk_facts m (of_decide_eq_true h)).2.2.2 c hc
  simpa using this
theorem wrd_facts {c : UInt8} (h : wrd c = true) : c.toNat ≠ 10 ∧ c.toNat ≠ 32 ∧ c.toNat ≠ 9 ∧ c.toNat < 128 ∧ c.toNat ≠ 47 := by
  simp [wrd, sml, dgt, capl] at h; omega
theorem mk_nil : isMk [] = false := by decide
theorem first_mark {l : List UInt8} (h : wordS l = []) : firstS l = markT l := by unfold firstS; rw [h]
theorem first_word {l : List UInt8} {c : UInt8} {r : List UInt8} (h : wordS l = c :: r) : firstS l = if sml c then nameT (c :: r) else if dgt c then numT (c :: r) else (zTk, 5) := by unfold firstS; rw [h]
theorem word_pre (l : List UInt8) : wordS l = l.take (wordS l).length := by
  unfold wordS; have h : l.takeWhile wrd <+: l := List.takeWhile_prefix wrd; exact (List.prefix_iff_eq_take.1 h)
theorem word_all (l : List UInt8) : ∀ c ∈ wordS l, wrd c = true := fun c hc => by
  have := List.all_takeWhile (p := wrd) (l := l); exact List.all_eq_true.1 this c hc
structure Good (l : List UInt8) (t : Tk) : Prop where
  ne : t.text ≠ []
  pre : t.text = l.take t.text.length
  byte : ∀ c ∈ t.text, c.toNat ≠ 10 ∧ c.toNat ≠ 32 ∧ c.toNat ≠ 9 ∧ c.toNat < 128
  head : t.text.head? ≠ some 47
  line : t.line = 0
theorem good_mark {l : List UInt8} (h : (markT l).2 = 0) : Good l (markT l).1 := by
  unfold markT at h ⊢; by_cases h2 : isMk (l.take 2) = true
  · rw [if_pos h2]; have f := mk_facts _ (of_decide_eq_true h2); refine ⟨f.1, ?_, fun c hc => (mk_byte h2 hc).2, f.2.2.1, rfl⟩; rw [List.length_take]; by_cases hl : 2 ≤ l.length
    · rw [Nat.min_eq_left hl]
    · rw [Nat.min_eq_right (by omega), List.take_of_length_le (by omega), List.take_of_length_le (by omega)]
  · rw [if_neg h2] at h ⊢; by_cases h1 : isMk (l.take 1) = true
    · rw [if_pos h1]; have f := mk_facts _ (of_decide_eq_true h1); refine ⟨f.1, ?_, fun c hc => (mk_byte h1 hc).2, f.2.2.1, rfl⟩; rw [List.length_take]; by_cases hl : 1 ≤ l.length
      · rw [Nat.min_eq_left hl]
      · rw [Nat.min_eq_right (by omega), List.take_of_length_le (by omega), List.take_of_length_le (by omega)]
    · rw [if_neg h1] at h; simp at h
theorem good_word {l : List UInt8} {c : UInt8} {r : List UInt8} (h : wordS l = c :: r) {t : Tk} (ht : t.text = c :: r) (hl : t.line = 0) : Good l t := by
  have hall := word_all l; have hp := word_pre l; rw [h] at hall hp; refine ⟨by rw [ht]; simp, by rw [ht]; exact hp, fun d hd => ?_, ?_, hl⟩
  · rw [ht] at hd; have := wrd_facts (hall d hd); exact ⟨this.1, this.2.1, this.2.2.1, this.2.2.2.1⟩
  · rw [ht]; intro e; have e2 : c = 47 := (by simpa using e); exact (wrd_facts (hall c (by simp))).2.2.2.2 (by rw [e2]; rfl)
theorem first_good {l : List UInt8} (h : (firstS l).2 = 0) : Good l (firstS l).1 := by
  cases hw : wordS l with
  | nil =>
    rw [first_mark hw] at h ⊢; exact good_mark h
  | cons c r =>
    have e := first_word hw; rw [e] at h ⊢; by_cases hs : sml c = true
    · rw [if_pos hs] at h ⊢; unfold nameT at h ⊢; by_cases h16 : 16 < (c :: r).length
      · rw [if_pos h16] at h; simp at h
      · rw [if_neg h16]; exact good_word hw rfl rfl
    · rw [if_neg hs] at h ⊢; by_cases hd : dgt c = true
      · rw [if_pos hd] at h ⊢; unfold numT at h ⊢; by_cases hp : (parseS (c :: r)).2 = 0
        · rw [if_pos hp] at h ⊢; by_cases hm : 2147483647 < (parseS (c :: r)).1
          · rw [if_pos hm] at h; simp at h
          · rw [if_neg hm]; exact good_word hw rfl rfl
        · rw [if_neg hp] at h; exact absurd h hp
      · rw [if_neg hd] at h; simp at h
def validS (t : Tk) : Bool := decide ((firstS t.text).2 = 0) && (decide ((firstS t.text).1.kind = t.kind) && (decide ((firstS t.text).1.n = t.n) && decide ((firstS t.text).1.text = t.text)))
theorem valid_iff {t : Tk} : validS t = true ↔ firstS t.text = (⟨t.kind, t.n, t.text, 0⟩, 0) := by
  constructor
  · intro h; simp only [validS, Bool.and_eq_true, decide_eq_true_eq] at h; obtain ⟨h0, h1, h2, h3⟩ := h; have h4 := (first_good h0).line; rcases hf : firstS t.text with ⟨⟨k, n, x, ln⟩, e⟩
    rw [hf] at h0 h1 h2 h3 h4; simp only at h0 h1 h2 h3 h4; rw [h0, h1, h2, h3, h4]
  · intro h; simp [validS, h]
def nmB (l : List UInt8) : Bool := match l with | [] => false | c :: r => decide (r.length + 1 ≤ 16) && (sml c && (!isKw (c :: r) && (c :: r).all wrd))
theorem wordS_all {l : List UInt8} (h : l.all wrd = true) : wordS l = l := by
  have := List.takeWhile_append_of_pos (p := wrd) (l₁ := l) (l₂ := []) (fun a ha => List.all_eq_true.1 h a ha)
  simpa [wordS] using this
theorem name_iff (l : List UInt8) : validS ⟨1, 0, l, 0⟩ = nmB l := by
  rw [Bool.eq_iff_iff, valid_iff]; constructor
  · intro h; have h0 : (firstS l).2 = 0 := (by show (firstS (Tk.text ⟨1, 0, l, 0⟩)).2 = 0; rw [h]); have hf : firstS l = (⟨1, 0, l, 0⟩, 0) := h; rcases hw : wordS l with _ | ⟨c, r⟩
    · rw [first_mark hw] at hf; unfold markT at hf; split at hf
      · simp at hf
      · split at hf
        · simp at hf
        · simp at hf
    · rw [first_word hw] at hf; by_cases hs : sml c = true
      · rw [if_pos hs] at hf; unfold nameT at hf; by_cases h16 : 16 < (c :: r).length
        · rw [if_pos h16] at hf; simp at hf
        · rw [if_neg h16] at hf; have ht : c :: r = l := (by have := congrArg (fun x => x.1.text) hf; exact this); have hk : isKw (c :: r) = false := by
            have := congrArg (fun x => x.1.kind) hf; cases e : isKw (c :: r)
            · rfl
            · rw [e] at this; simp at this
          have hall : (c :: r).all wrd = true := by
            rw [List.all_eq_true]; intro x hx; rw [← hw] at hx; exact word_all l x hx
          rw [← ht]; simp only [nmB, hs, hk, hall, Bool.not_false, Bool.and_true]; simp at h16 ⊢; omega
      · rw [if_neg hs] at hf; unfold numT at hf; split at hf
        · split at hf
          · split at hf
            · simp at hf
            · simp at hf
          · have := congrArg (fun x => x.1.kind) hf; simp [zTk] at this
        · simp at hf
  · intro h; cases l with
    | nil => cases h
    | cons c r =>
      simp only [nmB, Bool.and_eq_true, decide_eq_true_eq, Bool.not_eq_true'] at h; obtain ⟨h1, h2, h3, h4⟩ := h; have hw : wordS (c :: r) = c :: r := wordS_all h4; show firstS (c :: r) = _; rw [first_word hw, if_pos h2, nameT, if_neg (by rw [List.length_cons]; omega), h3]; rfl
end Go.Proofs.YtpejflgdehioaaaGreatDoor.LexM
namespace Go.Proofs.YtpejflgdehioaaaGreatDoor.ClM
open Go Go.Proofs.YtpejflgdehioaaaGreatDoor.LexM
inductive Kd where
  | exprs | weights | items | strs | fields | blocks | classes
inductive Lf where
  | n (i : Int)
  | s (t : ByteArray)
  | b (v : Bool)
  | row (k : Kd) (l : List (List Lf))
inductive Sh where
  | n | s | b | r (k : Kd)
def shp : Kd → List Sh
  | .exprs => [.n, .n, .s, .r .exprs]
  | .weights => [.n, .n, .n, .b]
  | .items => [.n, .n, .n, .s, .r .exprs, .s, .s, .r .weights, .r .items, .r .items, .r .strs, .r .strs]
  | .strs => [.s]
  | .fields => [.s, .n, .n, .n, .n]
  | .blocks => [.s, .r .items]
  | .classes => [.s, .s, .r .fields, .r .blocks]
def byt : Kd → Nat
  | .exprs => 56
  | .weights => 32
  | .items => 216
  | .strs => 16
  | .fields => 48
  | .blocks => 40
  | .classes => 80
structure Fld where
  nm : ByteArray
  wd : Int
  sz : Int
  md : Int
  ini : Int
structure Bk where
  nm : ByteArray
  it : List (List Lf)
structure Cl where
  nm : ByteArray
  par : ByteArray
  fs : List Fld
  bs : List Bk
def Fld.lf (f : Fld) : List Lf := [.s f.nm, .n f.wd, .n f.sz, .n f.md, .n f.ini]
def Bk.lf (b : Bk) : List Lf := [.s b.nm, .row .items b.it]
def Cl.lf (c : Cl) : List Lf := [.s c.nm, .s c.par, .row .fields (c.fs.map Fld.lf), .row .blocks (c.bs.map Bk.lf)]
def emp : ByteArray := ⟨#[]⟩
def zCl : Cl := ⟨emp, emp, [], []⟩
def same (a b : ByteArray) : Bool := a.data.toList == b.data.toList
theorem same_iff {a b : ByteArray} : same a b = true ↔ a = b := by
  unfold same; rw [beq_iff_eq]; constructor
  · intro h; obtain ⟨⟨x⟩⟩ := a; obtain ⟨⟨y⟩⟩ := b; simp at h; rw [h]
  · rintro rfl; rfl
def bad (a : ByteArray) : Bool := !nmB a.data.toList
def maxI (f : Fld) : Int := if f.md = 0 then 2 ^ f.wd.toNat - 1 else 0
def okF (f : Fld) : Bool := decide (1 ≤ f.wd ∧ f.wd ≤ 8 ∧ 0 ≤ f.sz ∧ f.sz ≤ 8 ∧ 0 ≤ f.md ∧ f.md ≤ 2 ∧ ¬ (0 < f.sz ∧ f.md = 2) ∧ 0 ≤ f.ini ∧ f.ini ≤ maxI f)
def fieldE (f : Fld) : Int := if bad f.nm = true then 7 else if okF f = true then 0 else 1
def firstE (l : List Int) : Int := (l.find? (fun e => e != 0)).getD 0
theorem firstE_zero {l : List Int} : firstE l = 0 ↔ ∀ e ∈ l, e = 0 := by
  unfold firstE; constructor
  · intro h e he; cases hf : l.find? (fun e => e != 0) with
    | none => have := List.find?_eq_none.1 hf e he; simpa using this
    | some x =>
      have h1 := List.find?_some hf; rw [hf] at h; simp at h h1; exact absurd h h1
  · intro h; rw [List.find?_eq_none.2 (fun x hx => by simpa using h x hx)]; rfl
theorem firstE_at {l : List Int} {k : Nat} {e : Int} (h : l[k]? = some e) (he : e ≠ 0) (hz : ∀ x ∈ l.take k, x = 0) : firstE l = e := by
  unfold firstE; obtain ⟨hk, hx⟩ := List.getElem?_eq_some_iff.1 h; have : l.find? (fun e => e != 0) = some e := by
    rw [← List.take_append_drop k l, List.find?_append, List.find?_eq_none.2 (fun x hx => by simpa using hz x hx), List.drop_eq_getElem_cons hk, hx]; simp [he]
  rw [this]; rfl
def large (c : Cl) : Bool := decide (16 < c.fs.length) || decide (16 < c.bs.length)
structure Val (c : Cl) : Prop where
  nm : bad c.nm = false
  par : c.par = emp ∨ bad c.par = false
  lg : large c = false
  fs : ∀ f ∈ c.fs, fieldE f = 0
  bs : ∀ b ∈ c.bs, bad b.nm = false
  df : (c.fs.map Fld.nm).Nodup
  db : (c.bs.map Bk.nm).Nodup
def fnd (src : List Cl) (x : ByteArray) : Option Cl := src.find? (fun c => same c.nm x)
def chain (src : List Cl) : Nat → Cl → List Cl
  | 0, c => [c]
  | k + 1, c => if same c.par emp = true then [c] else match fnd src c.par with
    | some d => c :: chain src k d
    | none => [c]
def plc (bs : List Bk) (x : ByteArray) : Option Nat := bs.findIdx? (fun a => same a.nm x)
def addB (bs : List Bk) (b : Bk) : List Bk := match plc bs b.nm with
  | some i => bs.set i b
  | none => bs ++ [b]
def addAll (bs ns : List Bk) : List Bk := ns.foldl addB bs
def stepC (c x : Cl) : Cl := ⟨x.nm, emp, c.fs ++ x.fs, addAll c.bs x.bs⟩
def flatL (l : List Cl) : Cl := l.foldr (fun x c => stepC c x) zCl
def lineOf (src : List Cl) (c : Cl) : List Cl := chain src src.length c
def flatOf (src : List Cl) (c : Cl) : Cl := flatL (lineOf src c)
def orphan (src : List Cl) (c : Cl) : Bool := !same c.par emp && (fnd src c.par).isNone
structure Good (src : List Cl) : Prop where
  len : src.length ≤ 32
  val : ∀ c ∈ src, Val c
  nd : (src.map Cl.nm).Nodup
  par : ∀ c ∈ src, orphan src c = false
  ends : ∀ c ∈ src, (lineOf src c).length ≤ src.length
  df : ∀ c ∈ src, ((flatOf src c).fs.map Fld.nm).Nodup
  lg : ∀ c ∈ src, large (flatOf src c) = false
end Go.Proofs.YtpejflgdehioaaaGreatDoor.ClM
namespace Go.Proofs.YtpejflgdehioaaaGreatDoor.WordM
open Go
def bitN (x i : Nat) : Nat := x / 2 ^ i % 2
def sumN : Nat → Nat → Nat
  | 0, _ => 0
  | n + 1, x => sumN n x + bitN x n
theorem bitN_le (x i : Nat) : bitN x i ≤ 1 := by unfold bitN; omega
theorem sumN_le (n x : Nat) : sumN n x ≤ n := by
  induction n with
  | zero => simp [sumN]
  | succ n ih => have := bitN_le x n; simp only [sumN]; omega
def wordN (a : Int) : Nat := (a % 65536).toNat
end Go.Proofs.YtpejflgdehioaaaGreatDoor.WordM
namespace Go.Proofs.YtpejflgdehioaaaGreatDoor.ExM
open Go Go.Proofs.YtpejflgdehioaaaGreatDoor.WordM Go.Proofs.YtpejflgdehioaaaGreatDoor.LexM
inductive Ex where
  | mk (op n : Int) (nm : ByteArray) (args : List Ex)
def Ex.op : Ex → Int | .mk o _ _ _ => o
def Ex.n : Ex → Int | .mk _ n _ _ => n
def Ex.nm : Ex → ByteArray | .mk _ _ s _ => s
def Ex.args : Ex → List Ex | .mk _ _ _ l => l
theorem Ex.ind {P : Ex → Prop} (h : ∀ o n s l, (∀ a ∈ l, P a) → P (.mk o n s l)) (e : Ex) : P e :=
  Ex.rec (motive_1 := P) (motive_2 := fun l => ∀ a ∈ l, P a) (fun o n s l ih => h o n s l ih) (fun _ ha => nomatch ha)
    (fun _ _ hb hr a ha => (List.mem_cons.1 ha).elim (fun e => e ▸ hb) (fun g => hr a g)) e
structure In where
  lv : Nat
  op : Int
  n : Int
  nm : ByteArray
  k : Nat
mutual
def pre (l : Nat) : Ex → List In
  | .mk o n s ks => ⟨l, o, n, s, ks.length⟩ :: pres (l + 1) ks
def pres (l : Nat) : List Ex → List In
  | [] => []
  | a :: r => pre l a ++ pres l r
end
theorem pre_mk (l : Nat) (o n : Int) (s : ByteArray) (ks : List Ex) : pre l (.mk o n s ks) = ⟨l, o, n, s, ks.length⟩ :: pres (l + 1) ks := by rw [pre]
theorem pres_nil (l : Nat) : pres l [] = [] := by rw [pres]
theorem pres_cons (l : Nat) (a : Ex) (r : List Ex) : pres l (a :: r) = pre l a ++ pres l r := by rw [pres]
theorem pres_append (l : Nat) (a b : List Ex) : pres l (a ++ b) = pres l a ++ pres l b := by
  induction a with
  | nil => simp [pres_nil]
  | cons x r ih => rw [List.cons_append, pres_cons, pres_cons, ih, List.append_assoc]
theorem pres_take {l k : Nat} {ks : List Ex} {a : Ex} (h : ks[k]? = some a) : pres l (ks.take (k + 1)) = pres l (ks.take k) ++ pre l a := by
  obtain ⟨hk, he⟩ := List.getElem?_eq_some_iff.1 h; rw [List.take_succ_eq_append_getElem hk, pres_append, he, pres_cons, pres_nil, List.append_nil]
theorem mem_pres {l : Nat} {ks : List Ex} {x : In} : x ∈ pres l ks ↔ ∃ a ∈ ks, x ∈ pre l a := by
  induction ks with
  | nil => simp [pres_nil]
  | cons b r ih => rw [pres_cons, List.mem_append, ih]; simp
mutual
def sz : Ex → Nat
  | .mk _ _ _ ks => szs ks + 1
def szs : List Ex → Nat
  | [] => 0
  | a :: r => sz a + szs r
def dep : Ex → Nat
  | .mk _ _ _ ks => deps ks + 1
def deps : List Ex → Nat
  | [] => 0
  | a :: r => max (dep a) (deps r)
end
theorem sz_mk (o n : Int) (s : ByteArray) (ks : List Ex) : sz (.mk o n s ks) = szs ks + 1 := by rw [sz]
theorem szs_nil : szs [] = 0 := by rw [szs]
theorem szs_cons (a : Ex) (r : List Ex) : szs (a :: r) = sz a + szs r := by rw [szs]
theorem dep_mk (o n : Int) (s : ByteArray) (ks : List Ex) : dep (.mk o n s ks) = deps ks + 1 := by rw [dep]
theorem deps_nil : deps [] = 0 := by rw [deps]
theorem deps_cons (a : Ex) (r : List Ex) : deps (a :: r) = max (dep a) (deps r) := by rw [deps]
theorem sz_pos (e : Ex) : 0 < sz e := by cases e; rw [sz_mk]; omega
theorem szs_append (a b : List Ex) : szs (a ++ b) = szs a + szs b := by
  induction a with
  | nil => simp [szs_nil]
  | cons x r ih => rw [List.cons_append, szs_cons, szs_cons, ih]; omega
theorem szs_take {k : Nat} {ks : List Ex} {a : Ex} (h : ks[k]? = some a) : szs (ks.take (k + 1)) = szs (ks.take k) + sz a := by
  obtain ⟨hk, he⟩ := List.getElem?_eq_some_iff.1 h; rw [List.take_succ_eq_append_getElem hk, szs_append, he, szs_cons, szs_nil]; omega
theorem szs_take_le (k : Nat) (ks : List Ex) : szs (ks.take k) ≤ szs ks := by
  have := szs_append (ks.take k) (ks.drop k); rw [List.take_append_drop] at this; omega
theorem len_szs (ks : List Ex) : ks.length ≤ szs ks := by
  induction ks with
  | nil => simp
  | cons a r ih => rw [szs_cons]; have := sz_pos a; simp; omega
theorem sz_mem {ks : List Ex} {a : Ex} (h : a ∈ ks) : sz a ≤ szs ks := by
  induction ks with
  | nil => cases h
  | cons b r ih =>
    rw [szs_cons]; rcases List.mem_cons.1 h with rfl | h
    · omega
    · have := ih h; omega
theorem pres_len {l : Nat} {ks : List Ex} (h : ∀ a ∈ ks, (pre l a).length = sz a) : (pres l ks).length = szs ks := by
  induction ks with
  | nil => rw [pres_nil, szs_nil]; rfl
  | cons b r ih => rw [pres_cons, szs_cons, List.length_append, h b (by simp), ih (fun a ha => h a (by simp [ha]))]
theorem pre_len (e : Ex) : ∀ l, (pre l e).length = sz e := by
  induction e using Ex.ind with
  | h o n s ks ih => intro l; rw [pre_mk, sz_mk, List.length_cons, pres_len (fun a ha => ih a ha _)]
def mxL (L : List In) : Nat := L.foldl (fun d x => max d x.lv) 0
theorem mx_fold (L : List In) : ∀ d, L.foldl (fun d x => max d x.lv) d = max d (mxL L) := by
  unfold mxL; induction L with
  | nil => intro d; simp
  | cons x r ih => intro d; rw [List.foldl_cons, List.foldl_cons, ih, ih (max 0 x.lv)]; omega
theorem mx_append (A B : List In) : mxL (A ++ B) = max (mxL A) (mxL B) := by
  unfold mxL; rw [List.foldl_append, mx_fold B]; rfl
theorem mx_one (x : In) : mxL [x] = x.lv := by simp [mxL]
theorem mx_cons (x : In) (A : List In) : mxL (x :: A) = max x.lv (mxL A) := by
  rw [show x :: A = [x] ++ A from rfl, mx_append, mx_one]
theorem mx_nil : mxL [] = 0 := rfl
theorem pres_mx {l : Nat} {ks : List Ex} (hl : 0 < ks.length) (h : ∀ a ∈ ks, mxL (pre l a) + 1 = l + dep a) : mxL (pres l ks) + 1 = l + deps ks := by
  induction ks with
  | nil => simp at hl
  | cons b r ih =>
    rw [pres_cons, deps_cons, mx_append]; have hb := h b (by simp); cases r with
    | nil => rw [pres_nil, deps_nil, mx_nil]; omega
    | cons c r => have := ih (by simp) (fun a ha => h a (by simp [ha])); omega
theorem pre_mx (e : Ex) : ∀ l, mxL (pre l e) + 1 = l + dep e := by
  induction e using Ex.ind with
  | h o n s ks ih =>
    intro l; rw [pre_mk, dep_mk, mx_cons]; cases ks with
    | nil => rw [pres_nil, deps_nil, mx_nil]; simp
    | cons b r => have := pres_mx (l := l + 1) (ks := b :: r) (by simp) (fun a ha => ih a ha _); simp only; omega
open Classical in
noncomputable def addN (l : List ByteArray) (s : ByteArray) : List ByteArray := if s ∈ l then l else l ++ [s]
noncomputable def stepN (p : Int → Bool) (l : List ByteArray) (x : In) : List ByteArray := if p x.op then addN l x.nm else l
noncomputable def namesL (p : Int → Bool) (L : List In) : List ByteArray := L.foldl (stepN p) []
def isVr (o : Int) : Bool := decide (o = 2)
def isAr (o : Int) : Bool := decide (o = 3) || decide (o = 24)
def arS (o : Int) : Int :=
  if o = 1 ∨ o = 2 ∨ o = 24 then 0 else if o = 3 ∨ o = 4 ∨ o = 5 ∨ o = 6 ∨ o = 25 then 1 else if o = 22 then 3 else if o = 23 then -1 else if 1 ≤ o ∧ o ≤ 25 then 2 else -1
def takesS (o : Int) (k : Nat) : Bool := if o = 23 then decide (3 ≤ k ∧ k ≤ 33 ∧ k % 2 = 1) else decide ((k : Int) = arS o)
def greatS (o : Int) : Int := if o = 1 then 65535 else 0
def elmB (l : List UInt8) : Bool :=
  match l.reverse with
  | c :: d :: b :: r => decide (c = 93) && (decide (b = 91) && (decide (48 ≤ d.toNat ∧ d.toNat ≤ 55) && nmB r.reverse))
  | _ => false
def varB (l : List UInt8) : Bool := elmB l || nmB l
def badA (x : In) : Bool := !takesS x.op x.k || (decide (x.n < 0) || (decide (greatS x.op < x.n) || (!decide (x.nm.size = 0) && (!isVr x.op && !isAr x.op))))
def badN (x : In) : Bool := (isVr x.op && !varB x.nm.data.toList) || (isAr x.op && !nmB x.nm.data.toList)
def fltS (x : In) : Int := if badA x = true then 1 else if badN x = true then 7 else 0
def fstE (L : List In) : Int := L.foldl (fun f x => if f = 0 then fltS x else f) 0
theorem fst_snoc (L : List In) (x : In) : fstE (L ++ [x]) = if fstE L = 0 then fltS x else fstE L := by
  unfold fstE; rw [List.foldl_append]; rfl
theorem fst_append (A B : List In) : fstE (A ++ B) = if fstE A = 0 then fstE B else fstE A := by
  have : ∀ (B : List In) (f : Int), B.foldl (fun f x => if f = 0 then fltS x else f) f = if f = 0 then fstE B else f := by
    intro B; unfold fstE; induction B with
    | nil => intro f; simp
    | cons y r ih =>
      intro f; rw [List.foldl_cons, List.foldl_cons, ih]; by_cases h : f = 0
      · subst h; simp only [if_true]; rw [ih (fltS y)]
      · simp only [if_neg h]
  unfold fstE at *; rw [List.foldl_append, this]
theorem fst_zero (L : List In) : fstE L = 0 ↔ ∀ x ∈ L, fltS x = 0 := by
  induction L with
  | nil => simp [fstE]
  | cons y r ih =>
    rw [show y :: r = [y] ++ r from rfl, fst_append]; have h1 : fstE [y] = fltS y := (by simp [fstE]); rw [h1]; by_cases h : fltS y = 0
    · rw [if_pos h, ih]; simp [h]
    · rw [if_neg h]; simp [h]
def vldL (L : List In) : Int := if fstE L = 0 then (if 24 < mxL L ∨ 400 < L.length then 2 else 0) else fstE L
theorem flt_lv (l m : Nat) (o n : Int) (s : ByteArray) (k : Nat) : fltS ⟨l, o, n, s, k⟩ = fltS ⟨m, o, n, s, k⟩ := rfl
theorem flt_range (x : In) : fltS x = 0 ∨ fltS x = 1 ∨ fltS x = 7 := by
  unfold fltS; split
  · simp
  · split <;> simp
def Ok (e : Ex) : Prop := ∀ x ∈ pre 0 e, fltS x = 0
theorem pres_lv {l : Nat} {ks : List Ex} (m : Nat) (h : ∀ a ∈ ks, (∀ x ∈ pre l a, fltS x = 0) → ∀ x ∈ pre m a, fltS x = 0) (g : ∀ x ∈ pres l ks, fltS x = 0) : ∀ x ∈ pres m ks, fltS x = 0 := by
  intro x hx; obtain ⟨a, ha, hxa⟩ := mem_pres.1 hx; exact h a ha (fun y hy => g y (mem_pres.2 ⟨a, ha, hy⟩)) x hxa
theorem pre_lv (e : Ex) : ∀ l m, (∀ x ∈ pre l e, fltS x = 0) → ∀ x ∈ pre m e, fltS x = 0 := by
  induction e using Ex.ind with
  | h o n s ks ih =>
    intro l m h x hx; rw [pre_mk] at hx; rcases List.mem_cons.1 hx with rfl | hx
    · have := h ⟨l, o, n, s, ks.length⟩ (by rw [pre_mk]; simp); rw [flt_lv m l]; exact this
    · exact pres_lv (l := l + 1) (m + 1) (fun a ha => ih a ha _ _) (fun y hy => h y (by rw [pre_mk]; simp [hy])) x hx
theorem ok_at (e : Ex) (l : Nat) : Ok e ↔ ∀ x ∈ pre l e, fltS x = 0 := ⟨pre_lv e 0 l, pre_lv e l 0⟩
theorem ok_mk (o n : Int) (s : ByteArray) (ks : List Ex) : Ok (.mk o n s ks) ↔ fltS ⟨0, o, n, s, ks.length⟩ = 0 ∧ ∀ a ∈ ks, Ok a := by
  constructor
  · intro h; refine ⟨h _ (by rw [pre_mk]; simp), fun a ha => (ok_at a 1).2 fun x hx => h x (by rw [pre_mk]; exact List.mem_cons_of_mem _ (mem_pres.2 ⟨a, ha, hx⟩))⟩
  · rintro ⟨h1, h2⟩ x hx; rw [pre_mk] at hx; rcases List.mem_cons.1 hx with rfl | hx
    · exact h1
    · obtain ⟨a, ha, hxa⟩ := mem_pres.1 hx; exact (ok_at a _).1 (h2 a ha) x hxa
def vld (e : Ex) : Int := vldL (pre 1 e)
theorem vld_zero (e : Ex) : vld e = 0 ↔ Ok e ∧ dep e ≤ 24 ∧ sz e ≤ 400 := by
  have h1 := pre_mx e 1; have h2 := pre_len e 1; unfold vld vldL; by_cases h : fstE (pre 1 e) = 0
  · rw [if_pos h, ok_at e 1, ← fst_zero]; by_cases g : 24 < mxL (pre 1 e) ∨ 400 < (pre 1 e).length
    · rw [if_pos g]; constructor
      · intro x; omega
      · rintro ⟨_, b, c⟩; omega
    · rw [if_neg g]; simp only [h, true_and]; constructor
      · intro _; omega
      · intro _; trivial
  · rw [if_neg h, ok_at e 1, ← fst_zero]; simp [h]
theorem vld_range (e : Ex) : 0 ≤ vld e ∧ vld e ≤ 7 := by
  unfold vld vldL; have : ∀ L, 0 ≤ fstE L ∧ fstE L ≤ 7 := by
    intro L; unfold fstE; have : ∀ (L : List In) f, (0 ≤ f ∧ f ≤ 7) → 0 ≤ L.foldl (fun f x => if f = 0 then fltS x else f) f ∧ L.foldl (fun f x => if f = 0 then fltS x else f) f ≤ 7 := by
      intro L; induction L with
      | nil => intro f h; exact h
      | cons y r ih =>
        intro f h; rw [List.foldl_cons]; apply ih; have := flt_range y; split <;> omega
    exact this L 0 (by omega)
  have := this (pre 1 e); split
  · split <;> omega
  · exact this
abbrev Env := List (ByteArray × Int)
def findS : Env → ByteArray → Option Int
  | [], _ => none
  | (a, v) :: r, s => if a.data.toList = s.data.toList then some (v % 65536) else findS r s
def fnd (env : Env) (s : ByteArray) : Int := (findS env s).getD 0
def hasN (env : Env) (s : ByteArray) : Bool := (findS env s).isSome
def elmN (a : ByteArray) (i : Nat) : ByteArray := ⟨(a.data.toList ++ [91, UInt8.ofNat (48 + i), 93]).toArray⟩
def elS (env : Env) (a : ByteArray) (i : Int) : Int := if 0 ≤ i ∧ i ≤ 7 then fnd env (elmN a i.toNat) else 0
def sumK (env : Env) (a : ByteArray) : Nat → Int
  | 0 => 0
  | k + 1 => (sumK env a k + elS env a k) % 65536
def ix (l : List Int) (i : Nat) : Int := l.getD i 0
def tr (b : Bool) : Int := if b then 1 else 0
def shlM (a n : Int) : Int := if 0 ≤ n ∧ n ≤ 15 then a * 2 ^ n.toNat % 65536 else 0
def shrM (a n : Int) : Int := if 0 ≤ n ∧ n ≤ 15 then a % 65536 / 2 ^ n.toNat else 0
def onesM (a : Int) : Int := (sumN 16 (wordN a) : Int)
def insB (n : Int) : List Int → Bool
  | a :: b :: r => (decide (a ≤ n) && decide (n ≤ b)) || insB n r
  | _ => false
def opS (o : Int) (l : List Int) : Int :=
  if o = 4 then tr (decide (ix l 0 = 0))
  else if o = 5 then 65535 - ix l 0 % 65536
  else if o = 6 then -ix l 0 % 65536
  else if o = 25 then onesM (ix l 0)
  else if o = 7 then (ix l 0 + ix l 1) % 65536
  else if o = 8 then (ix l 0 - ix l 1) % 65536
  else if o = 9 then ix l 0 * ix l 1 % 65536
  else if o = 13 then shlM (ix l 0) (ix l 1)
  else if o = 14 then shrM (ix l 0) (ix l 1)
  else if o = 10 then (((ix l 0).toNat &&& (ix l 1).toNat : Nat) : Int)
  else if o = 11 then (((ix l 0).toNat ||| (ix l 1).toNat : Nat) : Int)
  else if o = 12 then (((ix l 0).toNat ^^^ (ix l 1).toNat : Nat) : Int)
  else if o = 15 then tr (decide (ix l 0 = ix l 1))
  else if o = 16 then tr (!decide (ix l 0 = ix l 1))
  else if o = 17 then tr (decide (ix l 0 < ix l 1))
  else if o = 18 then tr (decide (ix l 0 ≤ ix l 1))
  else if o = 19 then tr (!decide (ix l 0 = 0) && !decide (ix l 1 = 0))
  else if o = 20 then tr (!decide (ix l 0 = 0) || !decide (ix l 1 = 0))
  else if o = 21 then tr (decide (ix l 0 = 0) || !decide (ix l 1 = 0))
  else if o = 22 then (if ix l 0 = 0 then ix l 2 else ix l 1)
  else tr (insB (ix l 0) l.tail)
def valS (env : Env) (o n : Int) (s : ByteArray) (l : List Int) : Int :=
  if o = 1 then n else if o = 2 then fnd env s else if o = 3 then elS env s (ix l 0) else if o = 24 then sumK env s 8 else opS o l
def knwS (env : Env) (o : Int) (s : ByteArray) : Bool :=
  if o = 2 then hasN env s else if o = 3 ∨ o = 24 then hasN env (elmN s 0) else true
mutual
def ev (env : Env) : Ex → Int
  | .mk o n s ks => valS env o n s (evs env ks)
def evs (env : Env) : List Ex → List Int
  | [] => []
  | a :: r => ev env a :: evs env r
def kn (env : Env) : Ex → Bool
  | .mk o _ s ks => kns env ks && knwS env o s
def kns (env : Env) : List Ex → Bool
  | [] => true
  | a :: r => kn env a && kns env r
end
theorem ev_mk (env : Env) (o n : Int) (s : ByteArray) (ks : List Ex) : ev env (.mk o n s ks) = valS env o n s (evs env ks) := by rw [ev]
theorem evs_map (env : Env) (ks : List Ex) : evs env ks = ks.map (ev env) := by
  induction ks with
  | nil => rw [evs]; rfl
  | cons a r ih => rw [evs, ih]; rfl
theorem kn_mk (env : Env) (o n : Int) (s : ByteArray) (ks : List Ex) : kn env (.mk o n s ks) = (kns env ks && knwS env o s) := by rw [kn]
theorem kns_all (env : Env) (ks : List Ex) : kns env ks = ks.all (kn env) := by
  induction ks with
  | nil => rw [kns]; rfl
  | cons a r ih => rw [kns, ih]; rfl
theorem tr_range (b : Bool) : 0 ≤ tr b ∧ tr b ≤ 65535 := by cases b <;> simp [tr]
theorem fnd_range (env : Env) (s : ByteArray) : 0 ≤ fnd env s ∧ fnd env s ≤ 65535 := by
  unfold fnd; induction env with
  | nil => simp [findS]
  | cons x r ih =>
    obtain ⟨a, v⟩ := x; unfold findS; split
    · simp only [Option.getD_some]; omega
    · exact ih
theorem elS_range (env : Env) (a : ByteArray) (i : Int) : 0 ≤ elS env a i ∧ elS env a i ≤ 65535 := by
  unfold elS; split
  · exact fnd_range _ _
  · omega
theorem sumK_range (env : Env) (a : ByteArray) (k : Nat) : 0 ≤ sumK env a k ∧ sumK env a k ≤ 65535 := by
  cases k with
  | zero => simp [sumK]
  | succ k => unfold sumK; omega
def Wd (l : List Int) : Prop := ∀ v ∈ l, 0 ≤ v ∧ v ≤ 65535
theorem ix_range {l : List Int} (h : Wd l) (i : Nat) : 0 ≤ ix l i ∧ ix l i ≤ 65535 := by
  unfold ix; by_cases g : i < l.length
  · rw [List.getD_eq_getElem?_getD, List.getElem?_eq_getElem g]; exact h _ (List.getElem_mem g)
  · rw [List.getD_eq_getElem?_getD, List.getElem?_eq_none (by omega)]; simp
theorem shlM_range (a n : Int) : 0 ≤ shlM a n ∧ shlM a n ≤ 65535 := by unfold shlM; split <;> omega
theorem shrM_range (a n : Int) : 0 ≤ shrM a n ∧ shrM a n ≤ 65535 := by
  unfold shrM; split
  · have h0 : 0 ≤ a % 65536 := (by omega); have h1 : a % 65536 ≤ 65535 := (by omega); have hp : (0 : Int) < 2 ^ n.toNat := Int.pow_pos (by omega); refine ⟨Int.ediv_nonneg h0 (by omega), Int.le_trans (Int.ediv_le_self _ h0) h1⟩
  · omega
theorem and_range {a b : Nat} (ha : a ≤ 65535) : a &&& b ≤ 65535 := Nat.le_trans Nat.and_le_left ha
theorem or_range {a b : Nat} (ha : a ≤ 65535) (hb : b ≤ 65535) : a ||| b ≤ 65535 := by
  have := Nat.or_lt_two_pow (n := 16) (x := a) (y := b) (by omega) (by omega); omega
theorem xor_range {a b : Nat} (ha : a ≤ 65535) (hb : b ≤ 65535) : a ^^^ b ≤ 65535 := by
  have := Nat.xor_lt_two_pow (n := 16) (x := a) (y := b) (by omega) (by omega); omega
theorem rng_ite {c : Prop} [Decidable c] {a b : Int} (ha : 0 ≤ a ∧ a ≤ 65535) (hb : 0 ≤ b ∧ b ≤ 65535) : 0 ≤ (if c then a else b) ∧ (if c then a else b) ≤ 65535 := by
  by_cases h : c
  · rw [if_pos h]; exact ha
  · rw [if_neg h]; exact hb
theorem opS_range {o : Int} {l : List Int} (h : Wd l) : 0 ≤ opS o l ∧ opS o l ≤ 65535 := by
  have h0 := ix_range h 0; have h1 := ix_range h 1; have h2 := ix_range h 2; have n0 : (ix l 0).toNat ≤ 65535 := (by omega); have n1 : (ix l 1).toNat ≤ 65535 := (by omega); unfold opS; refine rng_ite (tr_range _) (rng_ite (by omega) (rng_ite (by omega) (rng_ite ?_ (rng_ite (by omega) (rng_ite (by omega) (rng_ite (by omega) (rng_ite (shlM_range _ _) (rng_ite (shrM_range _ _) (rng_ite ?_ (rng_ite ?_ (rng_ite ?_ (rng_ite (tr_range _) (rng_ite (tr_range _) (rng_ite (tr_range _) (rng_ite (tr_range _) (rng_ite (tr_range _) (rng_ite (tr_range _) (rng_ite (tr_range _) (rng_ite (rng_ite h2 h1) (tr_range _))))))))))))))))))))
  · have := sumN_le 16 (wordN (ix l 0)); unfold onesM; omega
  · have := and_range (b := (ix l 1).toNat) n0; omega
  · have := or_range n0 n1; omega
  · have := xor_range n0 n1; omega
theorem flt_one {l : Nat} {n : Int} {s : ByteArray} {k : Nat} (h : fltS ⟨l, 1, n, s, k⟩ = 0) : 0 ≤ n ∧ n ≤ 65535 := by
  unfold fltS at h; split at h
  · omega
  · rename_i hb; simp [badA, greatS] at hb; omega
theorem ev_range (env : Env) (e : Ex) (h : Ok e) : 0 ≤ ev env e ∧ ev env e ≤ 65535 := by
  induction e using Ex.ind with
  | h o n s ks ih =>
    rw [ok_mk] at h; rw [ev_mk]; have hw : Wd (evs env ks) := fun v hv => by
      rw [evs_map] at hv; obtain ⟨a, ha, rfl⟩ := List.mem_map.1 hv; exact ih a ha (h.2 a ha)
    unfold valS; split
    · rename_i ho; subst ho; exact flt_one h.1
    · split
      · exact fnd_range _ _
      · split
        · exact elS_range _ _ _
        · split
          · exact sumK_range _ _ _
          · exact opS_range hw
mutual
def su (nm : ByteArray) (by_ : Ex) : Ex → Ex
  | .mk o n s ks => if isVr o = true ∧ s.data.toList = nm.data.toList then by_ else .mk o n s (sus nm by_ ks)
def sus (nm : ByteArray) (by_ : Ex) : List Ex → List Ex
  | [] => []
  | a :: r => su nm by_ a :: sus nm by_ r
end
theorem sus_map (nm : ByteArray) (b : Ex) (ks : List Ex) : sus nm b ks = ks.map (su nm b) := by
  induction ks with
  | nil => rw [sus]; rfl
  | cons a r ih => rw [sus, ih]; rfl
theorem su_mk (nm : ByteArray) (b : Ex) (o n : Int) (s : ByteArray) (ks : List Ex) : su nm b (.mk o n s ks) = if isVr o = true ∧ s.data.toList = nm.data.toList then b else .mk o n s (ks.map (su nm b)) := by rw [su, sus_map]
theorem su_sz (nm : ByteArray) (b e : Ex) : sz (su nm b e) ≤ sz e * sz b := by
  induction e using Ex.ind with
  | h o n s ks ih =>
    rw [su_mk, sz_mk]; have hb := sz_pos b; split
    · exact Nat.le_mul_of_pos_left _ (by omega)
    · rw [sz_mk]; have : szs (ks.map (su nm b)) ≤ szs ks * sz b := by
        clear hb; induction ks with
        | nil => simp [szs_nil]
        | cons a r ih2 =>
          rw [List.map_cons, szs_cons, szs_cons, Nat.add_mul]; have h1 := ih a (by simp); have h2 := ih2 (fun c hc => ih c (by simp [hc])); omega
      rw [Nat.add_mul]; omega
end Go.Proofs.YtpejflgdehioaaaGreatDoor.ExM
namespace Go.Proofs.YtpejflgdehioaaaGreatDoor.ItM
open Go Go.Proofs.YtpejflgdehioaaaGreatDoor.WordM Go.Proofs.YtpejflgdehioaaaGreatDoor.LexM Go.Proofs.YtpejflgdehioaaaGreatDoor.ExM
open Go.Proofs.YtpejflgdehioaaaGreatDoor.ClM (Fld firstE firstE_zero firstE_at)
structure Wt where
  lo : Int
  hi : Int
  wt : Int
  ea : Bool
inductive It where
  | mk (kd : Int) (e : Ex) (nm ix : ByteArray) (ws : List Wt) (it el : List It) (bf af : List ByteArray)
def It.kd : It → Int | .mk k _ _ _ _ _ _ _ _ => k
def It.e : It → Ex | .mk _ e _ _ _ _ _ _ _ => e
def It.nm : It → ByteArray | .mk _ _ s _ _ _ _ _ _ => s
def It.ix : It → ByteArray | .mk _ _ _ s _ _ _ _ _ => s
def It.ws : It → List Wt | .mk _ _ _ _ l _ _ _ _ => l
def It.it : It → List It | .mk _ _ _ _ _ l _ _ _ => l
def It.el : It → List It | .mk _ _ _ _ _ _ l _ _ => l
def It.bf : It → List ByteArray | .mk _ _ _ _ _ _ _ l _ => l
def It.af : It → List ByteArray | .mk _ _ _ _ _ _ _ _ l => l
theorem its_ind {P : List It → Prop} (h : ∀ l, (∀ x ∈ l, P x.it ∧ P x.el) → P l) (l : List It) : P l :=
  h l (It.rec_1 (motive_1 := fun x => P x.it ∧ P x.el) (motive_2 := fun l => ∀ x ∈ l, P x.it ∧ P x.el)
    (fun _ _ _ _ _ it el _ _ hi he => ⟨h it hi, h el he⟩) (fun _ ha => nomatch ha)
    (fun _ _ hb hr a ha => (List.mem_cons.1 ha).elim (fun e => e ▸ hb) (fun g => hr a g)) l)
theorem its_rec {P : List It → Prop} (h0 : P []) (h1 : ∀ x r, P x.it → P x.el → P r → P (x :: r)) (l : List It) : P l := by
  induction l using its_ind with
  | h l ih =>
    induction l with
    | nil => exact h0
    | cons x r ih2 => exact h1 x r (ih x (by simp)).1 (ih x (by simp)).2 (ih2 fun y hy => ih y (by simp [hy]))
mutual
def isz : It → Nat
  | .mk _ _ _ _ _ it el _ _ => iszs it + iszs el + 1
def iszs : List It → Nat
  | [] => 0
  | a :: r => isz a + iszs r
end
theorem isz_eq (x : It) : isz x = iszs x.it + iszs x.el + 1 := by cases x; rw [isz]; rfl
theorem iszs_nil : iszs [] = 0 := by rw [iszs]
theorem iszs_cons (a : It) (r : List It) : iszs (a :: r) = isz a + iszs r := by rw [iszs]
theorem iszs_append (a b : List It) : iszs (a ++ b) = iszs a + iszs b := by
  induction a with
  | nil => simp [iszs_nil]
  | cons x r ih => rw [List.cons_append, iszs_cons, iszs_cons, ih]; omega
theorem iszs_take {k : Nat} {l : List It} {a : It} (h : l[k]? = some a) : iszs (l.take (k + 1)) = iszs (l.take k) + isz a := by
  obtain ⟨hk, he⟩ := List.getElem?_eq_some_iff.1 h; rw [List.take_succ_eq_append_getElem hk, iszs_append, he, iszs_cons, iszs_nil]; omega
theorem iszs_take_le (k : Nat) (l : List It) : iszs (l.take k) ≤ iszs l := by
  have := iszs_append (l.take k) (l.drop k); rw [List.take_append_drop] at this; omega
theorem len_iszs (l : List It) : l.length ≤ iszs l := by
  induction l with
  | nil => simp
  | cons a r ih => rw [iszs_cons, isz_eq]; simp; omega
theorem isz_mem {l : List It} {a : It} (h : a ∈ l) : isz a ≤ iszs l := by
  induction l with
  | nil => cases h
  | cons b r ih =>
    rw [iszs_cons]; rcases List.mem_cons.1 h with rfl | h
    · omega
    · have := ih h; omega
structure Pl where
  d : Nat
  B : List ByteArray
  x : It
def inn (kd : Int) (ix : ByteArray) (B : List ByteArray) : List ByteArray := if kd = 5 then ix :: B else B
mutual
def wk (d : Nat) (B : List ByteArray) : It → List Pl
  | .mk kd e nm ix ws it el bf af => ⟨d, B, .mk kd e nm ix ws it el bf af⟩ :: (wks (d + 1) (inn kd ix B) it ++ wks (d + 1) B el)
def wks (d : Nat) (B : List ByteArray) : List It → List Pl
  | [] => []
  | a :: r => wk d B a ++ wks d B r
end
theorem wk_eq (d : Nat) (B : List ByteArray) (x : It) : wk d B x = ⟨d, B, x⟩ :: (wks (d + 1) (inn x.kd x.ix B) x.it ++ wks (d + 1) B x.el) := by cases x; rw [wk]; rfl
theorem wks_nil (d : Nat) (B : List ByteArray) : wks d B [] = [] := by rw [wks]
theorem wks_cons (d : Nat) (B : List ByteArray) (a : It) (r : List It) : wks d B (a :: r) = wk d B a ++ wks d B r := by rw [wks]
theorem wks_append (d : Nat) (B : List ByteArray) (a b : List It) : wks d B (a ++ b) = wks d B a ++ wks d B b := by
  induction a with
  | nil => simp [wks_nil]
  | cons x r ih => rw [List.cons_append, wks_cons, wks_cons, ih, List.append_assoc]
theorem wks_take {d k : Nat} {B : List ByteArray} {l : List It} {a : It} (h : l[k]? = some a) : wks d B (l.take (k + 1)) = wks d B (l.take k) ++ wk d B a := by
  obtain ⟨hk, he⟩ := List.getElem?_eq_some_iff.1 h; rw [List.take_succ_eq_append_getElem hk, wks_append, he, wks_cons, wks_nil, List.append_nil]
theorem wks_len (l : List It) : ∀ d B, (wks d B l).length = iszs l := by
  induction l using its_rec with
  | h0 => intro d B; rw [wks_nil, iszs_nil]; rfl
  | h1 x r h1 h2 h3 => intro d B; rw [wks_cons, wk_eq, iszs_cons, isz_eq, List.length_append, List.length_cons, List.length_append, h1, h2, h3]
def Nd1 (x : It) : Prop := sz x.e ≤ 10000 ∧ x.ws.length ≤ 1000 ∧ x.bf.length ≤ 1000 ∧ x.af.length ≤ 1000
mutual
def RsI : It → Prop
  | .mk kd e nm ix ws it el bf af => Nd1 (.mk kd e nm ix ws it el bf af) ∧ RsL it ∧ RsL el
def RsL : List It → Prop
  | [] => True
  | a :: r => RsI a ∧ RsL r
end
theorem rsI_eq (x : It) : RsI x ↔ Nd1 x ∧ RsL x.it ∧ RsL x.el := by cases x; rw [RsI]; rfl
theorem rsL_nil : RsL [] := by rw [RsL]; trivial
theorem rsL_cons (a : It) (r : List It) : RsL (a :: r) ↔ RsI a ∧ RsL r := by rw [RsL]
theorem rsL_mem {l : List It} : RsL l ↔ ∀ x ∈ l, RsI x := by
  induction l with
  | nil => simp [rsL_nil]
  | cons a r ih => rw [rsL_cons, ih]; simp
theorem rs_wks (l : List It) : ∀ d B, RsL l → ∀ p ∈ wks d B l, Nd1 p.x := by
  induction l using its_rec with
  | h0 => intro d B _ p hp; rw [wks_nil] at hp; cases hp
  | h1 x r h1 h2 h3 =>
    intro d B h p hp; rw [rsL_cons, rsI_eq] at h; rw [wks_cons, wk_eq] at hp; rcases List.mem_append.1 hp with hp | hp
    · rcases List.mem_cons.1 hp with rfl | hp
      · exact h.1.1
      · rcases List.mem_append.1 hp with hp | hp
        · exact h1 _ _ h.1.2.1 p hp
        · exact h2 _ _ h.1.2.2 p hp
    · exact h3 _ _ h.2 p hp
def zE : Ex := .mk 0 0 ⟨#[]⟩ []
def isEmp (s : ByteArray) : Bool := decide (s.size = 0)
def zB (e : Ex) : Bool := decide (e.op = 0) && (decide (e.n = 0) && (isEmp e.nm && e.args.isEmpty))
def freeB (x : It) : Bool :=
  if x.kd = 1 ∨ x.kd = 2 then isEmp x.nm && (isEmp x.ix && (x.ws.isEmpty && (x.it.isEmpty && (x.el.isEmpty && (x.bf.isEmpty && x.af.isEmpty)))))
  else if x.kd = 3 then zB x.e && (isEmp x.ix && (x.it.isEmpty && (x.el.isEmpty && (x.bf.isEmpty && x.af.isEmpty))))
  else if x.kd = 4 then isEmp x.nm && (isEmp x.ix && (x.ws.isEmpty && (x.bf.isEmpty && x.af.isEmpty)))
  else if x.kd = 5 then zB x.e && (x.ws.isEmpty && (x.el.isEmpty && (x.bf.isEmpty && x.af.isEmpty)))
  else zB x.e && (isEmp x.nm && (isEmp x.ix && (x.ws.isEmpty && (x.it.isEmpty && x.el.isEmpty))))
def outK (k : Int) : Bool := decide (k = 3) || decide (k = 6)
def kindB (k : Int) : Bool := decide (1 ≤ k) && decide (k ≤ 6)
def wrongW (w : Wt) : Bool := decide (w.lo < 0) || (decide (w.hi < w.lo) || (decide (65535 < w.hi) || (decide (w.wt < 0) || decide (1000 < w.wt))))
def noVar (s : ByteArray) : Bool := !varB s.data.toList
def nameB (s : ByteArray) : Bool := nmB s.data.toList
def distE (x : It) : Int := if 16 < x.ws.length then 2 else if x.ws.length = 0 ∨ x.ws.any wrongW = true then 1 else if noVar x.nm = true then 7 else 0
def solveE (x : It) : Int := if x.bf.length = 0 ∨ x.af.length = 0 then 1 else if x.bf.any noVar = true ∨ x.af.any noVar = true then 7 else 0
def fltI (d : Nat) (x : It) : Int :=
  if (!kindB x.kd || (!freeB x || (decide (4 < d) || (decide (0 < d) && outK x.kd)))) = true then 1
  else if x.kd = 3 then distE x
  else if x.kd = 6 then solveE x
  else if x.kd = 5 then (if nameB x.nm = true ∧ nameB x.ix = true then 0 else 7)
  else vld x.e
def fltP (p : Pl) : Int := fltI p.d p.x
def firstV (l : List It) : Int := firstE ((wks 0 [] l).map fltP)
def validI (l : List It) : Int := if 64 < iszs l then 2 else firstV l
theorem firstE_nil : firstE [] = 0 := rfl
theorem firstE_cons (a : Int) (l : List Int) : firstE (a :: l) = if a = 0 then firstE l else a := by
  unfold firstE; rw [List.find?_cons]; by_cases h : a = 0
  · subst h; simp
  · have h2 : (a != 0) = true := (by simpa using h); rw [h2, if_neg h]; rfl
theorem firstE_append (a b : List Int) : firstE (a ++ b) = if firstE a = 0 then firstE b else firstE a := by
  induction a with
  | nil => simp [firstE_nil]
  | cons x r ih =>
    rw [List.cons_append, firstE_cons, firstE_cons, ih]; by_cases h : x = 0
    · simp [h]
    · simp [h]
theorem firstE_snoc (a : List Int) (x : Int) : firstE (a ++ [x]) = if firstE a = 0 then x else firstE a := by
  rw [firstE_append, firstE_cons, firstE_nil]; by_cases h : x = 0 <;> simp [h]
def szO (fs : List Fld) (s : ByteArray) : Option Int := (fs.find? (fun f => ClM.same f.nm s)).map Fld.sz
def szI (fs : List Fld) (s : ByteArray) : Int := (szO fs s).getD 0
def hasA (fs : List Fld) (s : ByteArray) : Bool := decide (0 < szI fs s)
def hasP (fs : List Fld) (s : ByteArray) : Bool := match szO fs s with | some n => decide (n ≤ 0) | none => false
def cutA (s : ByteArray) : ByteArray := ⟨(s.data.toList.take (s.data.toList.length - 3)).toArray⟩
def cutK (s : ByteArray) : Int := (((s.data.toList.getD (s.data.toList.length - 2) 48).toNat - 48 : Nat) : Int)
def isE (s : ByteArray) : Bool := elmB s.data.toList
def hasV (fs : List Fld) (s : ByteArray) : Bool := hasP fs s || (isE s && decide (cutK s < szI fs (cutA s)))
def misP (fs : List Fld) (s : ByteArray) : Bool := isE s && hasP fs (cutA s)
def unkB (fs : List Fld) (s : ByteArray) : Bool := misP fs s || (!hasV fs s && !hasA fs s)
def arrE (fs : List Fld) (s : ByteArray) : Int := if hasP fs s = true then 9 else if hasA fs s = true then 0 else 7
def varE (fs : List Fld) (s : ByteArray) : Int := if (hasA fs s || misP fs s) = true then 9 else if hasV fs s = true then 0 else 7
def memB (B : List ByteArray) (s : ByteArray) : Bool := B.any (fun t => ClM.same t s)
def nodE (fs : List Fld) (B : List ByteArray) (x : In) : Int := if isAr x.op = true then arrE fs x.nm else if (isVr x.op && !memB B x.nm) = true then varE fs x.nm else 0
def exE (fs : List Fld) (B : List ByteArray) (e : Ex) : Int := firstE ((pre 1 e).map (nodE fs B))
def chkI (fs : List Fld) (B : List ByteArray) (x : It) : Int :=
  if x.kd = 3 then (if unkB fs x.nm = true then 7 else 0)
  else if x.kd = 6 then (if (x.bf ++ x.af).any (unkB fs) = true then 7 else 0)
  else if x.kd = 5 then (if arrE fs x.nm = 0 then (if ((szO fs x.ix).isSome || memB B x.ix) = true then 8 else 0) else arrE fs x.nm)
  else exE fs B x.e
def chkP (fs : List Fld) (p : Pl) : Int := chkI fs p.B p.x
def firstC (fs : List Fld) (l : List It) : Int := firstE ((wks 0 [] l).map (chkP fs))
def checkI (fs : List Fld) (l : List It) : Int := if validI l = 0 then firstC fs l else validI l
def nodN (B : List ByteArray) (x : In) : List ByteArray := if (isAr x.op || (isVr x.op && !memB B x.nm)) = true then [x.nm] else []
def exN (B : List ByteArray) (e : Ex) : List ByteArray := (pre 1 e).flatMap (nodN B)
def ownN (B : List ByteArray) (x : It) : List ByteArray :=
  if x.kd = 1 ∨ x.kd = 2 ∨ x.kd = 4 then exN B x.e else if x.kd = 3 ∨ x.kd = 5 then [x.nm] else if x.kd = 6 then x.bf ++ x.af else []
def addN (l : List ByteArray) (s : ByteArray) : List ByteArray := if memB l s = true then l else l ++ [s]
def cst (k : Int) : Ex := .mk 1 k ⟨#[]⟩ []
mutual
def cntI (fs : List Fld) : It → Int
  | .mk kd _ nm _ _ it el _ _ => if kd = 4 then cntL fs it + cntL fs el else if kd = 5 then cntL fs it * min (szI fs nm) 401 else 1
def cntL (fs : List Fld) : List It → Int
  | [] => 0
  | a :: r => cntI fs a + cntL fs r
end
theorem cntI_eq (fs : List Fld) (x : It) : cntI fs x = if x.kd = 4 then cntL fs x.it + cntL fs x.el else if x.kd = 5 then cntL fs x.it * min (szI fs x.nm) 401 else 1 := by cases x; rw [cntI]; rfl
theorem cntL_nil (fs : List Fld) : cntL fs [] = 0 := by rw [cntL]
theorem cntL_cons (fs : List Fld) (a : It) (r : List It) : cntL fs (a :: r) = cntI fs a + cntL fs r := by rw [cntL]
def und (q : Option Ex) (op : Int) (e : Ex) : Ex := match q with | none => e | some c => .mk op 0 ⟨#[]⟩ [c, e]
def notE (e : Ex) : Ex := .mk 4 0 ⟨#[]⟩ [e]
def hardI (kd : Int) (e : Ex) : It := .mk kd e ⟨#[]⟩ ⟨#[]⟩ [] [] [] [] []
def outI (x : It) : It := .mk x.kd zE x.nm ⟨#[]⟩ x.ws [] [] x.bf x.af
mutual
def exI (fs : List Fld) (q : Option Ex) (σ : Ex → Ex) : It → List It
  | .mk kd e nm ix ws it el bf af =>
    if kd = 4 then exL fs (some (und q 19 (σ e))) σ it ++ exL fs (some (und q 19 (notE (σ e)))) σ el
    else if kd = 5 then (List.range (szI fs nm).toNat).flatMap (fun (k : Nat) => exL fs q (fun a => su ix (cst (k : Int)) (σ a)) it)
    else if kd = 1 ∨ kd = 2 then [hardI kd (und q 21 (σ e))]
    else [outI (.mk kd e nm ix ws it el bf af)]
def exL (fs : List Fld) (q : Option Ex) (σ : Ex → Ex) : List It → List It
  | [] => []
  | a :: r => exI fs q σ a ++ exL fs q σ r
end
theorem exI_eq (fs : List Fld) (q : Option Ex) (σ : Ex → Ex) (x : It) : exI fs q σ x =
    if x.kd = 4 then exL fs (some (und q 19 (σ x.e))) σ x.it ++ exL fs (some (und q 19 (notE (σ x.e)))) σ x.el
    else if x.kd = 5 then (List.range (szI fs x.nm).toNat).flatMap (fun (k : Nat) => exL fs q (fun a => su x.ix (cst (k : Int)) (σ a)) x.it)
    else if x.kd = 1 ∨ x.kd = 2 then [hardI x.kd (und q 21 (σ x.e))]
    else [outI x] := by cases x; rw [exI]; rfl
theorem exL_nil (fs : List Fld) (q : Option Ex) (σ : Ex → Ex) : exL fs q σ [] = [] := by rw [exL]
theorem exL_cons (fs : List Fld) (q : Option Ex) (σ : Ex → Ex) (a : It) (r : List It) : exL fs q σ (a :: r) = exI fs q σ a ++ exL fs q σ r := by rw [exL]
def largeB (x : It) : Bool := !outK x.kd && !decide (vld x.e = 0)
def expS (fs : List Fld) (l : List It) : List It × Int :=
  if checkI fs l = 0 then
    (if 400 < cntL fs l then ([], 2) else if (exL fs none (fun a => a) l).any largeB = true then ([], 2) else (exL fs none (fun a => a) l, 0))
  else ([], checkI fs l)
def elV (a : ByteArray) (k : Nat) : Ex := .mk 2 0 (elmN a k) []
def sumE (a : ByteArray) : Nat → Ex
  | 0 => elV a 0
  | k + 1 => .mk 7 0 ⟨#[]⟩ [sumE a k, elV a (k + 1)]
def choE (a : ByteArray) (i : Ex) (k : Nat) : Nat → Ex
  | 0 => cst 0
  | m + 1 => .mk 22 0 ⟨#[]⟩ [.mk 15 0 ⟨#[]⟩ [i, cst k], elV a k, choE a i (k + 1) m]
def elmE (a : ByteArray) (n : Nat) (i : Ex) : Ex := if i.op = 1 then (if i.n < n then elV a i.n.toNat else cst 0) else choE a i 0 n
def hdE (l : List Ex) : Ex := l.headD zE
mutual
def scM (fs : List Fld) : Ex → Ex
  | .mk o n s ks => if o = 24 then sumE s ((szI fs s).toNat - 1) else if o = 3 then elmE s (szI fs s).toNat (hdE (scMs fs ks)) else .mk o n s (scMs fs ks)
def scMs (fs : List Fld) : List Ex → List Ex
  | [] => []
  | a :: r => scM fs a :: scMs fs r
end
theorem scMs_map (fs : List Fld) (ks : List Ex) : scMs fs ks = ks.map (scM fs) := by
  induction ks with
  | nil => rw [scMs]; rfl
  | cons a r ih => rw [scMs, ih]; rfl
theorem scM_mk (fs : List Fld) (o n : Int) (s : ByteArray) (ks : List Ex) : scM fs (.mk o n s ks) = if o = 24 then sumE s ((szI fs s).toNat - 1) else if o = 3 then elmE s (szI fs s).toNat (hdE (ks.map (scM fs))) else .mk o n s (ks.map (scM fs)) := by rw [scM, scMs_map]
mutual
def scB (fs : List Fld) : Ex → Bool
  | .mk o n s ks => scBs fs ks && decide (vld (scM fs (.mk o n s ks)) = 0)
def scBs (fs : List Fld) : List Ex → Bool
  | [] => true
  | a :: r => scB fs a && scBs fs r
end
theorem scBs_all (fs : List Fld) (ks : List Ex) : scBs fs ks = ks.all (scB fs) := by
  induction ks with
  | nil => rw [scBs]; rfl
  | cons a r ih => rw [scBs, ih]; rfl
theorem scB_mk (fs : List Fld) (o n : Int) (s : ByteArray) (ks : List Ex) : scB fs (.mk o n s ks) = (ks.all (scB fs) && decide (vld (scM fs (.mk o n s ks)) = 0)) := by rw [scB, scBs_all]
def scaS (fs : List Fld) (e : Ex) : Ex × Int :=
  if vld e = 0 then (if exE fs [] e = 0 then (if scB fs e = true then (scM fs e, 0) else (zE, 2)) else (zE, exE fs [] e)) else (zE, vld e)
end Go.Proofs.YtpejflgdehioaaaGreatDoor.ItM
namespace Go.Proofs.YtpejflgdehioaaaGreatDoor.ItM
open Go Go.Proofs.YtpejflgdehioaaaGreatDoor.WordM Go.Proofs.YtpejflgdehioaaaGreatDoor.LexM Go.Proofs.YtpejflgdehioaaaGreatDoor.ExM
def okB (x : It) : Bool := decide (sz x.e ≤ 60) && (decide (x.ws.length ≤ 20) && (decide (x.bf.length ≤ 20) && (decide (x.af.length ≤ 20) && (decide (x.nm.size ≤ 40) && decide (x.ix.size ≤ 40)))))
mutual
/-- What a constraint's own lists add. -/
def lcI : It → Int → Int
  | .mk _ _ _ _ _ it el _ _, m => lcL it m it.length + lcL el m el.length
/-- What count returns, k being counted. -/
def lcL : List It → Int → Int → Int
  | [], _, k => k
  | a :: r, n, k => if k ≤ n then (if okB a = true then lcL r n (k + lcI a (n - k)) else n + 1) else k
end
theorem lcI_eq (x : It) (m : Int) : lcI x m = lcL x.it m x.it.length + lcL x.el m x.el.length := by cases x; rw [lcI]; rfl
theorem lcL_nil (n k : Int) : lcL [] n k = k := by rw [lcL]
theorem lcL_cons (a : It) (r : List It) (n k : Int) : lcL (a :: r) n k = if k ≤ n then (if okB a = true then lcL r n (k + lcI a (n - k)) else n + 1) else k := by rw [lcL]
mutual
def FwI : It → Prop
  | .mk kd e nm ix ws it el bf af => okB (.mk kd e nm ix ws it el bf af) = true ∧ FwL it ∧ FwL el
/-- All constraints, at any depth, are played. -/
def FwL : List It → Prop
  | [] => True
  | a :: r => FwI a ∧ FwL r
end
theorem fwI_eq (x : It) : FwI x ↔ okB x = true ∧ FwL x.it ∧ FwL x.el := by cases x; rw [FwI]; rfl
theorem fwL_nil : FwL [] := by rw [FwL]; trivial
theorem fwL_cons (a : It) (r : List It) : FwL (a :: r) ↔ FwI a ∧ FwL r := by rw [FwL]
theorem okB_iff {x : It} : okB x = true ↔ sz x.e ≤ 60 ∧ x.ws.length ≤ 20 ∧ x.bf.length ≤ 20 ∧ x.af.length ≤ 20 ∧ x.nm.size ≤ 40 ∧ x.ix.size ≤ 40 := by
  unfold okB; simp only [Bool.and_eq_true, decide_eq_true_eq]
theorem fw_rs (l : List It) : FwL l → RsL l := by
  induction l using its_rec with
  | h0 => intro _; exact rsL_nil
  | h1 x r h1 h2 h3 =>
    intro h; rw [fwL_cons, fwI_eq, okB_iff] at h; rw [rsL_cons, rsI_eq]; refine ⟨⟨⟨?_, ?_, ?_, ?_⟩, h1 h.1.2.1, h2 h.1.2.2⟩, h3 h.2⟩ <;> omega
theorem lc_ge (l : List It) : ∀ n k : Int, (0 ≤ k → k ≤ lcL l n k) ∧ (n ≤ 70 → 0 ≤ k → lcL l n k ≤ k + 73 * (iszs l : Int) - (l.length : Int)) := by
  induction l using its_rec with
  | h0 => intro n k; rw [lcL_nil, iszs_nil, List.length_nil]; omega
  | h1 x r h1 h2 h3 =>
    intro n k; rw [lcL_cons, iszs_cons, isz_eq, List.length_cons]; have l0 := len_iszs r; have a1 := h1 (n - k) x.it.length; have a2 := h2 (n - k) x.el.length; have l1 := len_iszs x.it; have l2 := len_iszs x.el; split
    · split
      · have e := lcI_eq x (n - k); have a3 := h3 n (k + lcI x (n - k)); have b1 := a1.1 (by omega); have b2 := a2.1 (by omega); refine ⟨fun hk => ?_, fun hn hk => ?_⟩
        · have := a3.1 (by omega); omega
        · have c1 := a1.2 (by omega) (by omega); have c2 := a2.2 (by omega) (by omega); have := a3.2 hn (by omega); omega
      · omega
    · omega
theorem lc_true (l : List It) : ∀ n k : Int, 0 ≤ k → lcL l n k ≤ n → FwL l ∧ lcL l n k = k + (iszs l : Int) - (l.length : Int) := by
  induction l using its_rec with
  | h0 => intro n k _ _; rw [lcL_nil, iszs_nil]; exact ⟨fwL_nil, by simp⟩
  | h1 x r h1 h2 h3 =>
    intro n k hk h; rw [lcL_cons] at h ⊢; rw [iszs_cons, isz_eq, fwL_cons, fwI_eq, List.length_cons]; split at h
    · rename_i hkn; rw [if_pos hkn]; split at h
      · rename_i hok; rw [if_pos hok]; have e := lcI_eq x (n - k); have a1 := (lc_ge x.it (n - k) x.it.length).1 (by omega); have a2 := (lc_ge x.el (n - k) x.el.length).1 (by omega); have a3 := (lc_ge r n (k + lcI x (n - k))).1 (by omega); obtain ⟨f1, g1⟩ := h1 (n - k) x.it.length (by omega) (by omega); obtain ⟨f2, g2⟩ := h2 (n - k) x.el.length (by omega) (by omega); obtain ⟨f3, g3⟩ := h3 n (k + lcI x (n - k)) (by omega) h; refine ⟨⟨⟨hok, f1, f2⟩, f3⟩, ?_⟩; rw [g3]; omega
      · omega
    · omega
def fewB (l : List It) : Bool := decide (lcL l 70 (l.length : Int) ≤ 70)
theorem few_true {l : List It} (h : fewB l = true) : FwL l ∧ iszs l ≤ 70 := by
  obtain ⟨h1, h2⟩ := lc_true l 70 l.length (by omega) (of_decide_eq_true h); have := of_decide_eq_true h; exact ⟨h1, by omega⟩
end Go.Proofs.YtpejflgdehioaaaGreatDoor.ItM
namespace Go.Proofs.YtpejflgdehioaaaGreatDoor.LexW
open Go Go.RowKit Go.Proofs.YtpejflgdehioaaaGreatDoor.NumM Go.Proofs.YtpejflgdehioaaaGreatDoor.LexM
theorem retb {a b : Bool} (h : a = b) : Ending.returned (.bool a) = .returned (.bool b) := by rw [h]
def smI (c : Int) : Bool := decide (97 ≤ c) && decide (c ≤ 122)
def dgI (c : Int) : Bool := decide (48 ≤ c) && decide (c ≤ 57)
theorem isSmall_any (c : Int) (w : World) : Calls Tryz.prog 193 #[.int .i32 c] w fun e w' => e = .returned (.bool (smI c)) ∧ w = w' := by
  by_cases h1 : 97 ≤ c
  · by_cases h2 : c ≤ 122
    all_goals
      go_enter Tryz.func193, Tryz.ntmps193
      go_wp2; go_ret; exact ⟨retb (by simp [smI, h1, h2]), rfl⟩
  · have h2 : (smI c) = false := by simp [smI]; omega
    go_enter Tryz.func193, Tryz.ntmps193
    go_wp2; go_ret; exact ⟨rfl, rfl⟩
theorem isDigit_any (c : Int) (w : World) : Calls Tryz.prog 195 #[.int .i32 c] w fun e w' => e = .returned (.bool (dgI c)) ∧ w = w' := by
  by_cases h1 : 48 ≤ c
  · by_cases h2 : c ≤ 57
    all_goals
      go_enter Tryz.func195, Tryz.ntmps195
      go_wp2; go_ret; exact ⟨retb (by simp [dgI, h1, h2]), rfl⟩
  · have h2 : (dgI c) = false := by simp [dgI]; omega
    go_enter Tryz.func195, Tryz.ntmps195
    go_wp2; go_ret; exact ⟨rfl, rfl⟩
theorem smallR_any (c : Int) (w : World) : Calls Tryz.prog 78 #[.int .u8 c] w fun e w' => e = .returned (.bool (smI c)) ∧ w = w' := by
  by_cases h1 : 97 ≤ c
  · by_cases h2 : c ≤ 122
    all_goals
      go_enter Tryz.func78, Tryz.ntmps78
      go_wp2; go_ret; exact ⟨retb (by simp [smI, h1, h2]), rfl⟩
  · have h2 : (smI c) = false := by simp [smI]; omega
    go_enter Tryz.func78, Tryz.ntmps78
    go_wp2; go_ret; exact ⟨rfl, rfl⟩
theorem digitR_any (c : Int) (w : World) : Calls Tryz.prog 124 #[.int .u8 c] w fun e w' => e = .returned (.bool (dgI c)) ∧ w = w' := by
  by_cases h1 : 48 ≤ c
  · by_cases h2 : c ≤ 57
    all_goals
      go_enter Tryz.func124, Tryz.ntmps124
      go_wp2; go_ret; exact ⟨retb (by simp [dgI, h1, h2]), rfl⟩
  · have h2 : (dgI c) = false := by simp [dgI]; omega
    go_enter Tryz.func124, Tryz.ntmps124
    go_wp2; go_ret; exact ⟨rfl, rfl⟩
set_option maxRecDepth 100000 in
set_option maxHeartbeats 4000000 in
theorem isKeyword_no (s : ByteArray) (w : World) (h : isKw s.data.toList = false) : Calls Tryz.prog 205 #[.string s] w fun e w' => e = .returned (.bool (isKw s.data.toList)) ∧ w = w' := by
  have hn : ∀ k ∈ kws, (s.toList == k) = false := fun k hk => by
    have := of_decide_eq_false h; rw [Lib.toList_data, beq_eq_false_iff_ne]; rintro rfl; exact this hk
  have n0 := hn [99, 108, 97, 115, 115] (by decide); have n1 := hn [101, 120, 116, 101, 110, 100, 115] (by decide); have n2 := hn [114, 97, 110, 100] (by decide); have n3 := hn [114, 97, 110, 100, 99] (by decide); have n4 := hn [115, 116, 97, 116, 101] (by decide); have n5 := hn [99, 111, 110, 115, 116, 114, 97, 105, 110, 116] (by decide); have n6 := hn [115, 111, 102, 116] (by decide); have n7 := hn [100, 105, 115, 116] (by decide); have n8 := hn [105, 102] (by decide); have n9 := hn [101, 108, 115, 101] (by decide); have n10 := hn [101, 97, 99, 104] (by decide); have n11 := hn [105, 110] (by decide); have n12 := hn [115, 111, 108, 118, 101] (by decide); have n13 := hn [98, 101, 102, 111, 114, 101] (by decide); have n14 := hn [105, 110, 115, 105, 100, 101] (by decide); have n15 := hn [112, 114, 111, 112, 101, 114, 116, 121] (by decide); have n16 := hn [115, 101, 113] (by decide); have n17 := hn [97, 110, 100] (by decide); have n18 := hn [111, 114] (by decide); have n19 := hn [110, 111, 116] (by decide); have n20 := hn [115, 101, 116] (by decide); have n21 := hn [104, 111, 108, 100] (by decide); have n22 := hn [112, 108, 97, 105, 110] (by decide); have n23 := hn [114, 101, 112, 101, 97, 116] (by decide); have H := Lib.hid h; clear h hn
  go_enter Tryz.func205, Tryz.ntmps205
  go_wp2; go_ret; exact ⟨retb H.out.symm, rfl⟩
set_option maxRecDepth 100000 in
set_option maxHeartbeats 4000000 in
theorem isKeyword_yes (s : ByteArray) (w : World) (h : isKw s.data.toList = true) : Calls Tryz.prog 205 #[.string s] w fun e w' => e = .returned (.bool (isKw s.data.toList)) ∧ w = w' := by
  have H := Lib.hid h; have h := of_decide_eq_true h; simp only [kws, List.mem_cons, List.not_mem_nil, or_false] at h; rcases h with h | h | h | h | h | h | h | h | h | h | h | h | h | h | h | h | h | h | h | h | h | h | h | h
  all_goals
    have e := (Lib.toList_data s).trans h; clear h
    go_enter Tryz.func205, Tryz.ntmps205
    go_wp2; go_ret; exact ⟨retb H.out.symm, rfl⟩
theorem isKeyword_any (s : ByteArray) (w : World) : Calls Tryz.prog 205 #[.string s] w fun e w' => e = .returned (.bool (isKw s.data.toList)) ∧ w = w' := by
  cases h : isKw s.data.toList
  · rw [← h]; exact isKeyword_no s w h
  · rw [← h]; exact isKeyword_yes s w h
set_option maxRecDepth 100000 in
set_option maxHeartbeats 4000000 in
theorem isMark_no (s : ByteArray) (w : World) (h : isMk s.data.toList = false) : Calls Tryz.prog 204 #[.string s] w fun e w' => e = .returned (.bool (isMk s.data.toList)) ∧ w = w' := by
  have hn : ∀ k ∈ mks, (s.toList == k) = false := fun k hk => by
    have := of_decide_eq_false h; rw [Lib.toList_data, beq_eq_false_iff_ne]; rintro rfl; exact this hk
  have n0 := hn [40] (by decide); have n1 := hn [41] (by decide); have n2 := hn [123] (by decide); have n3 := hn [125] (by decide); have n4 := hn [91] (by decide); have n5 := hn [93] (by decide); have n6 := hn [44] (by decide); have n7 := hn [59] (by decide); have n8 := hn [58] (by decide); have n9 := hn [46, 46] (by decide); have n10 := hn [63] (by decide); have n11 := hn [61] (by decide); have n12 := hn [61, 61] (by decide); have n13 := hn [33, 61] (by decide); have n14 := hn [60] (by decide); have n15 := hn [60, 61] (by decide); have n16 := hn [62] (by decide); have n17 := hn [62, 61] (by decide); have n18 := hn [60, 60] (by decide); have n19 := hn [62, 62] (by decide); have n20 := hn [43] (by decide); have n21 := hn [45] (by decide); have n22 := hn [42] (by decide); have n23 := hn [38] (by decide); have n24 := hn [124] (by decide); have n25 := hn [94] (by decide); have n26 := hn [126] (by decide); have n27 := hn [33] (by decide); have n28 := hn [38, 38] (by decide); have n29 := hn [124, 124] (by decide); have n30 := hn [45, 62] (by decide); have n31 := hn [61, 62] (by decide); have n32 := hn [58, 61] (by decide); have n33 := hn [58, 47] (by decide); have n34 := hn [35, 35] (by decide); have n35 := hn [64] (by decide); have H := Lib.hid h; clear h hn
  go_enter Tryz.func204, Tryz.ntmps204
  go_wp2; go_ret; exact ⟨retb H.out.symm, rfl⟩
set_option maxRecDepth 100000 in
set_option maxHeartbeats 4000000 in
theorem isMark_yes (s : ByteArray) (w : World) (h : isMk s.data.toList = true) : Calls Tryz.prog 204 #[.string s] w fun e w' => e = .returned (.bool (isMk s.data.toList)) ∧ w = w' := by
  have H := Lib.hid h; have h := of_decide_eq_true h; simp only [mks, List.mem_cons, List.not_mem_nil, or_false] at h; rcases h with h | h | h | h | h | h | h | h | h | h | h | h | h | h | h | h | h | h | h | h | h | h | h | h | h | h | h | h | h | h | h | h | h | h | h | h
  all_goals
    have e := (Lib.toList_data s).trans h; clear h
    go_enter Tryz.func204, Tryz.ntmps204
    go_wp2; go_ret; exact ⟨retb H.out.symm, rfl⟩
theorem isMark_any (s : ByteArray) (w : World) : Calls Tryz.prog 204 #[.string s] w fun e w' => e = .returned (.bool (isMk s.data.toList)) ∧ w = w' := by
  cases h : isMk s.data.toList
  · rw [← h]; exact isMark_no s w h
  · rw [← h]; exact isMark_yes s w h
theorem take_snoc (s : ByteArray) (k : Nat) (h : k < s.size) : s.data.toList.take (k + 1) = s.data.toList.take k ++ [s[k]] := by
  rw [List.take_succ_eq_append_getElem (by simpa using h)]; rfl
theorem len_data (s : ByteArray) : s.data.toList.length = s.size := by simp
theorem drop_cons (s : ByteArray) (k : Nat) (h : k < s.size) : s.data.toList.drop k = s[k] :: s.data.toList.drop (k + 1) := by
  rw [List.drop_eq_getElem_cons (by simpa using h)]; rfl
def wrI (c : Int) : Bool := smI c || (dgI c || ((decide (65 ≤ c) && decide (c ≤ 90)) || (c == 95)))
theorem wrI_byte (c : UInt8) : wrI (c.toNat : Int) = wrd c := by
  rw [Bool.eq_iff_iff]; simp [wrI, smI, dgI, wrd, sml, dgt, capl]; omega
theorem wrI_high {c : Int} (h : 128 ≤ c) : wrI c = false := by
  simp [wrI, smI, dgI]; omega
theorem inWord_any (c : Int) (w : World) : Calls Tryz.prog 191 #[.int .i32 c] w fun e w' => e = .returned (.bool (wrI c)) ∧ w = w' := by
  go_enter Tryz.func191, Tryz.ntmps191
  go_wp2_with (first | (go_at_call 193; refine (isSmall_any _ _).mono ?_; rintro e w' ⟨rfl, rfl⟩) | (go_at_call 195; refine (isDigit_any _ _).mono ?_; rintro e w' ⟨rfl, rfl⟩))
  all_goals
    go_ret; exact ⟨retb (by simp_all [wrI]; try (intros; omega)), rfl⟩
theorem takeWhile_at {p : UInt8 → Bool} {l : List UInt8} {k : Nat} (h : (l.take k).all p = true) (hs : l.length ≤ k ∨ ∃ c r, l.drop k = c :: r ∧ p c = false) (hk : k ≤ l.length) : (l.takeWhile p).length = k := by
  have e1 : l.takeWhile p = l.take k ++ (l.drop k).takeWhile p := by
    have := List.takeWhile_append_of_pos (p := p) (l₁ := l.take k) (l₂ := l.drop k) (fun a ha => List.all_eq_true.1 h a ha); rw [List.take_append_drop] at this; exact this
  have hlen : (l.take k).length = k := (by rw [List.length_take]; omega); rcases hs with hs | ⟨c, r, hd, hc⟩
  · rw [e1, List.drop_eq_nil_of_le hs]; simp only [List.takeWhile_nil, List.append_nil]; exact hlen
  · rw [e1, hd, List.takeWhile_cons, hc]; simp only [Bool.false_eq_true, if_false, List.append_nil]; exact hlen
def tInt (n : Nat) (w : World) (e : Ending) (w' : World) : Prop := e = .returned (.int .i64 (n : Int)) ∧ Below w.heap.size w w'
theorem tInt_mk {n m : Nat} {w w' : World} (h : m = n) (hb : Below w.heap.size w w') : tInt n w (.returned (.int .i64 (m : Int))) w' := by subst h; exact ⟨rfl, hb⟩
theorem below_iter (w : World) (s : ByteArray) (pos : Nat) : Below w.heap.size w (w.iter s pos) := (Below.refl _ _).alloc (Nat.le_refl _) _
set_option maxRecDepth 100000 in
set_option maxHeartbeats 1000000 in
theorem spanWord (s : ByteArray) (w : World) :
    Calls Tryz.prog 190 #[.string s, .func (.func 191) #[] #[]] w (tInt (wordS s.data.toList).length w) := by
  go_enter Tryz.func190, Tryz.ntmps190
  go_wp2; go_loopw [5] (fun _ wr => ∃ pos : Nat, wr = w.iter s pos ∧ pos ≤ s.size ∧ (s.data.toList.take pos).all wrd = true) (fun _ wr => s.size - wr.iterPos w.heap.size)
  case atStart => exact ⟨0, rfl, Nat.zero_le _, rfl⟩
  case round =>
    obtain ⟨pos, rfl, hk, ha⟩ := hrel; have HA := Lib.hid ha; clear ha; by_cases hp : pos < s.size
    · by_cases h7 : s[pos].toNat < 128
      · have hnx : ∀ ty, (Instr.next (.pointer (some ⟨w.heap.size, 0, none⟩)) true ty).run Tryz.prog (w.iter s pos) = _ := (fun ty => run_next_ascii w s pos ty hp h7); have HW := Lib.hid (wrI_byte s[pos]); obtain ⟨c, hc⟩ : ∃ c : Int, (s[pos].toNat : Int) = c := ⟨_, rfl⟩; rw [hc] at HW hnx; clear hc; have IW : ∀ W, Calls Tryz.prog 191 #[.int .i32 c] W fun e w' => e = .returned (.bool (wrI c)) ∧ W = w' := fun W => inWord_any c W
        rw [HW.out] at IW; cases hw : wrd s[pos]
        · have HH := Lib.hid hw; rw [hw] at IW; clear hw; have IW := Lib.hid IW; go_wp2_with (go_at_call 191; refine (IW.out _).mono ?_; rintro e w' ⟨rfl, rfl⟩)
          go_ret; exact tInt_mk (takeWhile_at HA.out (.inr ⟨_, _, drop_cons s pos hp, HH.out⟩) (by rw [len_data]; omega)).symm (below_iter _ _ _)
        · have HH := Lib.hid hw; rw [hw] at IW; clear hw; have IW := Lib.hid IW; go_wp2_with (go_at_call 191; refine (IW.out _).mono ?_; rintro e w' ⟨rfl, rfl⟩)
          go_roundw
          case rel => exact ⟨pos + 1, rfl, by omega, by rw [take_snoc s pos hp, List.all_append, HA.out]; simp [HH.out]⟩
          case measure => simp; omega
      · have hnx : ∀ ty, (Instr.next (.pointer (some ⟨w.heap.size, 0, none⟩)) true ty).run Tryz.prog (w.iter s pos) = _ := (fun ty => run_next_any w s pos ty hp); have hR := decode_high s pos hp (by omega); have HH : Hid (wrd s[pos] = false) := Lib.hid (by rw [← wrI_byte]; exact wrI_high (by omega)); obtain ⟨R, hRR⟩ : ∃ R, (Utf8.decode s pos).1 = R := ⟨_, rfl⟩; obtain ⟨K, hKK⟩ : ∃ K, (Utf8.decode s pos).2 = K := ⟨_, rfl⟩; rw [hRR, hKK] at hnx; rw [hRR] at hR; have IW : ∀ W, Calls Tryz.prog 191 #[.int .i32 (R : Int)] W fun e w' => e = .returned (.bool (wrI R)) ∧ W = w' := fun W => inWord_any R W
        rw [wrI_high (by omega)] at IW; have IW := Lib.hid IW; clear hRR hKK hR h7; go_wp2_with (go_at_call 191; refine (IW.out _).mono ?_; rintro e w' ⟨rfl, rfl⟩)
        go_ret; exact tInt_mk (takeWhile_at HA.out (.inr ⟨_, _, drop_cons s pos hp, HH.out⟩) (by rw [len_data]; omega)).symm (below_iter _ _ _)
    · have hnx : ∀ ty, (Instr.next (.pointer (some ⟨w.heap.size, 0, none⟩)) true ty).run Tryz.prog (w.iter s pos) = _ := (fun ty => run_next_end w s pos ty hp); go_wp2; go_ret; exact tInt_mk (by rw [show s.size = pos by omega]; exact (takeWhile_at HA.out (.inl (by rw [len_data]; omega)) (by rw [len_data]; omega)).symm) (below_iter _ _ _)
end Go.Proofs.YtpejflgdehioaaaGreatDoor.LexW
