/-
  Laws that the card uses; no conditions beside those that each states (NumMath NumText LexMath LexSmall ExLexSpan).
-/
import Derived.IntWalk
import Derived.Laws.Bits64
import Derived.Lib.ItoaNum
import Derived.Lib.AtoiAll
import Derived.Lib.Strings
import Derived.Test.YtpejflgdehioaaaGreatDoorRows
import Derived.WalkKit
import Derived.Outline
import Derived.WalkSpells
import Derived.Deep.DeepFit
import Derived.Lib.Hide
import Derived.LoopTactic
import Derived.Deep.QuietTactic
import Derived.BigQuiet
import Derived.Lib.MapLaws
import Derived.Laws.RangeAny
namespace Go.Proofs.YtpejflgdehioaaaGreatDoor.NumM
open Go Go.RowKit
def okI (x : Int) : Bool := decide (-9223372036854775808 ≤ x ∧ x ≤ 9223372036854775807)
def lim (x : Int) : Int × Int := if okI x then (x, 0) else (0, 3)
theorem okI_iff {x : Int} : okI x = true ↔ -9223372036854775808 ≤ x ∧ x ≤ 9223372036854775807 := by simp [okI]
theorem okI_no {x : Int} : okI x = false ↔ x < -9223372036854775808 ∨ 9223372036854775807 < x := by
  unfold okI; rw [decide_eq_false_iff_not]; omega
theorem lim_ok {x : Int} (h : okI x = true) : lim x = (x, 0) := by simp [lim, h]
theorem lim_no {x : Int} (h : okI x = false) : lim x = (0, 3) := by simp [lim, h]
def dgt (c : UInt8) : Bool := decide (48 ≤ c.toNat) && decide (c.toNat ≤ 57)
def minus (l : List UInt8) : Bool := l.head? == some 45
def tl (l : List UInt8) : List UInt8 := if minus l then l.tail else l
def vl (acc : Nat) (l : List UInt8) : Nat := l.foldl (fun a c => a * 10 + (c.toNat - 48)) acc
def isDec (l : List UInt8) : Bool := (tl l).all dgt && !(tl l).isEmpty && !((tl l).head? == some 48 && !(l == [48]))
def valS (l : List UInt8) : Int := if minus l then -(vl 0 (tl l) : Int) else (vl 0 (tl l) : Int)
def parseS (l : List UInt8) : Int × Int := if isDec l then lim (valS l) else (0, 5)
theorem trim_eq (l : List UInt8) : Lib.trimPrefix l [45] = tl l := by
  unfold Lib.trimPrefix tl minus Lib.hasPrefix; cases l with
  | nil => rfl
  | cons c r =>
    by_cases h : c = 45
    · subst h; simp
    · simp [h, show ¬ 45 = c from fun x => h x.symm]
theorem vl_nil (acc : Nat) : vl acc [] = acc := List.foldl_nil
theorem vl_cons (acc : Nat) (c : UInt8) (r : List UInt8) : vl acc (c :: r) = vl (acc * 10 + (c.toNat - 48)) r := List.foldl_cons ..
theorem vl_ge (l : List UInt8) (acc : Nat) : acc ≤ vl acc l := by
  induction l generalizing acc with
  | nil => exact Nat.le_refl _
  | cons d r ih =>
    have := ih (acc * 10 + (d.toNat - 48)); rw [vl_cons]; omega
theorem vl_append (a b : List UInt8) (acc : Nat) : vl acc (a ++ b) = vl (vl acc a) b := List.foldl_append ..
theorem dgt_iff {c : UInt8} : dgt c = true ↔ 48 ≤ c.toNat ∧ c.toNat ≤ 57 := by simp [dgt]
theorem tl_length (l : List UInt8) : (tl l).length ≤ l.length := by
  unfold tl; split
  · rw [List.length_tail]; omega
  · exact Nat.le_refl _
theorem dgt_at {d : ByteArray} {l : List UInt8} (hd : d.data.toList = tl l) (h : (tl l).all dgt = true) {k : Nat} (hk : k < d.size) :
    48 ≤ d[k].toNat ∧ d[k].toNat ≤ 57 := by
  rw [← hd] at h; have hm : d[k] ∈ d.data.toList := by
    have : d.data.toList[k]'(by simpa using hk) = d[k] := rfl; rw [← this]; exact List.getElem_mem _
  exact dgt_iff.1 (List.all_eq_true.1 h _ hm)
theorem head_at {d : ByteArray} {l : List UInt8} (hd : d.data.toList = tl l) (hk : 0 < d.size) : (tl l).head? = some d[0] := by
  rw [← hd]; have h : 0 < d.data.toList.length := (by simpa using hk); rw [List.head?_eq_getElem?, List.getElem?_eq_getElem h]; rfl
theorem str_no {s : ByteArray} (h : s.data.toList = [48]) : (!s.toList == [48]) = false := by rw [Lib.toList_data, h]; rfl
theorem str_yes {s : ByteArray} (h : s.data.toList ≠ [48]) : (!s.toList == [48]) = true := by rw [Lib.toList_data]; simpa using h
theorem isDec_of {l : List UInt8} (h1 : (tl l).all dgt = true) (h2 : tl l ≠ []) (h3 : ¬ ((tl l).head? = some 48 ∧ l ≠ [48])) : isDec l = true := by
  unfold isDec; rw [h1]; by_cases a : (tl l).head? = some 48
  · have b : l = [48] := by
      apply Classical.byContradiction; intro x; exact h3 ⟨a, x⟩
    subst b; decide
  · simp [h2, a]
theorem parseUint10_eq (l : List UInt8) : ∀ acc : Nat, l.all dgt = true → acc < 18446744073709551616 →
    Lib.parseUint10 acc l = if vl acc l < 18446744073709551616 then .ok (vl acc l) else .range := by
  induction l with
  | nil => intro acc _ ha; rw [vl_nil, if_pos ha]; rfl
  | cons c r ih =>
    intro acc hd ha; simp only [List.all_cons, Bool.and_eq_true] at hd; have hc := dgt_iff.1 hd.1; simp only [Lib.parseUint10, hc, and_self, if_true]; rw [vl_cons]; have hg := vl_ge r (acc * 10 + (c.toNat - 48)); by_cases h1 : 1844674407370955162 ≤ acc
    · rw [if_pos h1, if_neg (by omega)]
    · rw [if_neg h1]; by_cases h2 : 18446744073709551616 ≤ acc * 10 + (c.toNat - 48)
      · rw [if_pos h2, if_neg (by omega)]
      · rw [if_neg h2]; exact ih _ hd.2 (by omega)
theorem isDec_parts {l : List UInt8} (h : isDec l = true) : (tl l).all dgt = true ∧ tl l ≠ [] ∧ ((tl l).head? = some 48 → l = [48]) := by
  unfold isDec at h; simp only [Bool.and_eq_true, Bool.not_eq_true', List.isEmpty_eq_false_iff, Bool.and_eq_false_iff, beq_eq_false_iff_ne, ne_eq, Bool.not_eq_false', beq_iff_eq] at h; exact ⟨h.1.1, h.1.2, fun x => by rcases h.2 with y | y; exact absurd x y; exact y⟩
theorem parseMag_eq {t : List UInt8} (h : t.all dgt = true) (hn : t ≠ []) :
    Lib.parseMag t = if vl 0 t < 18446744073709551616 then .ok (vl 0 t) else .range := by
  unfold Lib.parseMag; rw [if_neg hn]; exact parseUint10_eq t 0 h (by decide)
theorem atoi_eq {l : List UInt8} (h : isDec l = true) : Lib.atoiAll l = if okI (valS l) then .ok (valS l) else .range := by
  obtain ⟨hd, hn, _⟩ := isDec_parts h; cases l with
  | nil => exact absurd rfl hn
  | cons c r =>
    by_cases hm : c = 45
    · subst hm; have e : tl (45 :: r) = r := rfl; have m : minus (45 :: r) = true := rfl; rw [e] at hd hn; simp only [Lib.atoiAll, valS, m, e, if_true]; rw [if_pos (by right; rfl), parseMag_eq hd hn]; by_cases h1 : vl 0 r < 18446744073709551616
      · rw [if_pos h1]; by_cases h2 : 9223372036854775808 < vl 0 r
        · rw [show okI (-(vl 0 r : Int)) = false from okI_no.2 (by omega)]; simp [h2]
        · rw [show okI (-(vl 0 r : Int)) = true from okI_iff.2 (by omega)]; simp [h2]
      · rw [if_neg h1, show okI (-(vl 0 r : Int)) = false from okI_no.2 (by omega)]; rfl
    · have e : tl (c :: r) = c :: r := (by simp [tl, minus, hm]); have m : minus (c :: r) = false := (by simp [minus, hm]); have hc : ¬ c.toNat = 45 := (fun x => hm (by rw [← UInt8.toNat_inj, x]; rfl)); rw [e] at hd hn; have hc2 := (dgt_iff.1 (by simp only [List.all_cons, Bool.and_eq_true] at hd; exact hd.1 : dgt c = true)).1; simp only [Lib.atoiAll, valS, m, e, Bool.false_eq_true, if_false]; rw [if_neg (by omega), parseMag_eq hd hn]; by_cases h1 : vl 0 (c :: r) < 18446744073709551616
      · rw [if_pos h1]; by_cases h2 : 9223372036854775808 ≤ vl 0 (c :: r)
        · rw [show okI ((vl 0 (c :: r) : Nat) : Int) = false from okI_no.2 (by omega)]; simp [h2, hc]
        · rw [show okI ((vl 0 (c :: r) : Nat) : Int) = true from okI_iff.2 (by omega)]; simp [h2, hc]
      · rw [if_neg h1, show okI ((vl 0 (c :: r) : Nat) : Int) = false from okI_no.2 (by omega)]; rfl
end Go.Proofs.YtpejflgdehioaaaGreatDoor.NumM
namespace Go.Proofs.YtpejflgdehioaaaGreatDoor.LexM
open Go Go.RowKit Go.Proofs.YtpejflgdehioaaaGreatDoor.NumM
def sml (c : UInt8) : Bool := decide (97 ≤ c.toNat) && decide (c.toNat ≤ 122)
def capl (c : UInt8) : Bool := decide (65 ≤ c.toNat) && decide (c.toNat ≤ 90)
def wrd (c : UInt8) : Bool := sml c || dgt c || capl c || decide (c.toNat = 95)
def kws : List (List UInt8) := [[99, 108, 97, 115, 115], [101, 120, 116, 101, 110, 100, 115], [114, 97, 110, 100], [114, 97, 110, 100, 99], [115, 116, 97, 116, 101], [99, 111, 110, 115, 116, 114, 97, 105, 110, 116], [115, 111, 102, 116], [100, 105, 115, 116], [105, 102], [101, 108, 115, 101], [101, 97, 99, 104], [105, 110], [115, 111, 108, 118, 101], [98, 101, 102, 111, 114, 101], [105, 110, 115, 105, 100, 101], [112, 114, 111, 112, 101, 114, 116, 121], [115, 101, 113], [97, 110, 100], [111, 114], [110, 111, 116], [115, 101, 116], [104, 111, 108, 100], [112, 108, 97, 105, 110], [114, 101, 112, 101, 97, 116]]
def mks : List (List UInt8) := [[40], [41], [123], [125], [91], [93], [44], [59], [58], [46, 46], [63], [61], [61, 61], [33, 61], [60], [60, 61], [62], [62, 61], [60, 60], [62, 62], [43], [45], [42], [38], [124], [94], [126], [33], [38, 38], [124, 124], [45, 62], [61, 62], [58, 61], [58, 47], [35, 35], [64]]
def isKw (l : List UInt8) : Bool := decide (l ∈ kws)
def isMk (l : List UInt8) : Bool := decide (l ∈ mks)
structure Tk where
  kind : Int
  n : Int
  text : List UInt8
  line : Int
def zTk : Tk := ⟨0, 0, [], 0⟩
def Tk.at (t : Tk) (ln : Int) : Tk := ⟨t.kind, t.n, t.text, ln⟩
def wordS (l : List UInt8) : List UInt8 := l.takeWhile wrd
def markT (l : List UInt8) : Tk × Int := if isMk (l.take 2) then (⟨4, 0, l.take 2, 0⟩, 0) else if isMk (l.take 1) then (⟨4, 0, l.take 1, 0⟩, 0) else (zTk, 5)
def nameT (t : List UInt8) : Tk × Int := if 16 < t.length then (zTk, 2) else (⟨if isKw t then 2 else 1, 0, t, 0⟩, 0)
def numT (t : List UInt8) : Tk × Int := if (parseS t).2 = 0 then (if 2147483647 < (parseS t).1 then (zTk, 3) else (⟨3, (parseS t).1, t, 0⟩, 0)) else (zTk, (parseS t).2)
def firstS (l : List UInt8) : Tk × Int := match wordS l with | [] => markT l | c :: r => if sml c then nameT (c :: r) else if dgt c then numT (c :: r) else (zTk, 5)
theorem mk_facts : ∀ m ∈ mks, m ≠ [] ∧ m.length ≤ 2 ∧ m.head? ≠ some 47 ∧ (m.all fun c => !wrd c && decide (c.toNat ≠ 10 ∧ c.toNat ≠ 32 ∧ c.toNat ≠ 9 ∧ c.toNat < 128)) = true := by decide
theorem mk_byte {m : List UInt8} (h : isMk m = true) {c : UInt8} (hc : c ∈ m) : wrd c = false ∧ c.toNat ≠ 10 ∧ c.toNat ≠ 32 ∧ c.toNat ≠ 9 ∧ c.toNat < 128 := by
  have := List.all_eq_true.1 (mk_facts m (of_decide_eq_true h)).2.2.2 c hc
  simpa using this
theorem wrd_facts {c : UInt8} (h : wrd c = true) : c.toNat ≠ 10 ∧ c.toNat ≠ 32 ∧ c.toNat ≠ 9 ∧ c.toNat < 128 ∧ c.toNat ≠ 47 := by
  simp [wrd, sml, dgt, capl] at h; omega
theorem mk_nil : isMk [] = false := by decide
theorem first_mark {l : List UInt8} (h : wordS l = []) : firstS l = markT l := by unfold firstS; rw [h]
theorem first_word {l : List UInt8} {c : UInt8} {r : List UInt8} (h : wordS l = c :: r) : firstS l = if sml c then nameT (c :: r) else if dgt c then numT (c :: r) else (zTk, 5) := by unfold firstS; rw [h]
theorem word_pre (l : List UInt8) : wordS l = l.take (wordS l).length := by
  unfold wordS; have h : l.takeWhile wrd <+: l := List.takeWhile_prefix wrd; exact (List.prefix_iff_eq_take.1 h)
theorem word_all (l : List UInt8) : ∀ c ∈ wordS l, wrd c = true := fun c hc => by
  have := List.all_takeWhile (p := wrd) (l := l); exact List.all_eq_true.1 this c hc
structure Good (l : List UInt8) (t : Tk) : Prop where
  ne : t.text ≠ []
  pre : t.text = l.take t.text.length
  byte : ∀ c ∈ t.text, c.toNat ≠ 10 ∧ c.toNat ≠ 32 ∧ c.toNat ≠ 9 ∧ c.toNat < 128
  head : t.text.head? ≠ some 47
  line : t.line = 0
theorem good_mark {l : List UInt8} (h : (markT l).2 = 0) : Good l (markT l).1 := by
  unfold markT at h ⊢; by_cases h2 : isMk (l.take 2) = true
  · rw [if_pos h2]; have f := mk_facts _ (of_decide_eq_true h2); refine ⟨f.1, ?_, fun c hc => (mk_byte h2 hc).2, f.2.2.1, rfl⟩; rw [List.length_take]; by_cases hl : 2 ≤ l.length
    · rw [Nat.min_eq_left hl]
    · rw [Nat.min_eq_right (by omega), List.take_of_length_le (by omega), List.take_of_length_le (by omega)]
  · rw [if_neg h2] at h ⊢; by_cases h1 : isMk (l.take 1) = true
    · rw [if_pos h1]; have f := mk_facts _ (of_decide_eq_true h1); refine ⟨f.1, ?_, fun c hc => (mk_byte h1 hc).2, f.2.2.1, rfl⟩; rw [List.length_take]; by_cases hl : 1 ≤ l.length
      · rw [Nat.min_eq_left hl]
      · rw [Nat.min_eq_right (by omega), List.take_of_length_le (by omega), List.take_of_length_le (by omega)]
    · rw [if_neg h1] at h; simp at h
theorem good_word {l : List UInt8} {c : UInt8} {r : List UInt8} (h : wordS l = c :: r) {t : Tk} (ht : t.text = c :: r) (hl : t.line = 0) : Good l t := by
  have hall := word_all l; have hp := word_pre l; rw [h] at hall hp; refine ⟨by rw [ht]; simp, by rw [ht]; exact hp, fun d hd => ?_, ?_, hl⟩
  · rw [ht] at hd; have := wrd_facts (hall d hd); exact ⟨this.1, this.2.1, this.2.2.1, this.2.2.2.1⟩
  · rw [ht]; intro e; have e2 : c = 47 := (by simpa using e); exact (wrd_facts (hall c (by simp))).2.2.2.2 (by rw [e2]; rfl)
theorem first_good {l : List UInt8} (h : (firstS l).2 = 0) : Good l (firstS l).1 := by
  cases hw : wordS l with
  | nil =>
    rw [first_mark hw] at h ⊢; exact good_mark h
  | cons c r =>
    have e := first_word hw; rw [e] at h ⊢; by_cases hs : sml c = true
    · rw [if_pos hs] at h ⊢; unfold nameT at h ⊢; by_cases h16 : 16 < (c :: r).length
      · rw [if_pos h16] at h; simp at h
      · rw [if_neg h16]; exact good_word hw rfl rfl
    · rw [if_neg hs] at h ⊢; by_cases hd : dgt c = true
      · rw [if_pos hd] at h ⊢; unfold numT at h ⊢; by_cases hp : (parseS (c :: r)).2 = 0
        · rw [if_pos hp] at h ⊢; by_cases hm : 2147483647 < (parseS (c :: r)).1
          · rw [if_pos hm] at h; simp at h
          · rw [if_neg hm]; exact good_word hw rfl rfl
        · rw [if_neg hp] at h; exact absurd h hp
      · rw [if_neg hd] at h; simp at h
def validS (t : Tk) : Bool := decide ((firstS t.text).2 = 0) && (decide ((firstS t.text).1.kind = t.kind) && (decide ((firstS t.text).1.n = t.n) && decide ((firstS t.text).1.text = t.text)))
theorem valid_iff {t : Tk} : validS t = true ↔ firstS t.text = (⟨t.kind, t.n, t.text, 0⟩, 0) := by
  constructor
  · intro h; simp only [validS, Bool.and_eq_true, decide_eq_true_eq] at h; obtain ⟨h0, h1, h2, h3⟩ := h; have h4 := (first_good h0).line; rcases hf : firstS t.text with ⟨⟨k, n, x, ln⟩, e⟩
    rw [hf] at h0 h1 h2 h3 h4; simp only at h0 h1 h2 h3 h4; rw [h0, h1, h2, h3, h4]
  · intro h; simp [validS, h]
end Go.Proofs.YtpejflgdehioaaaGreatDoor.LexM
namespace Go.Proofs.YtpejflgdehioaaaGreatDoor.LexW
open Go Go.RowKit Go.Proofs.YtpejflgdehioaaaGreatDoor.NumM Go.Proofs.YtpejflgdehioaaaGreatDoor.LexM
theorem retb {a b : Bool} (h : a = b) : Ending.returned (.bool a) = .returned (.bool b) := by rw [h]
def smI (c : Int) : Bool := decide (97 ≤ c) && decide (c ≤ 122)
def dgI (c : Int) : Bool := decide (48 ≤ c) && decide (c ≤ 57)
theorem isSmall_any (c : Int) (w : World) : Calls Tryz.prog 193 #[.int .i32 c] w fun e w' => e = .returned (.bool (smI c)) ∧ w = w' := by
  by_cases h1 : 97 ≤ c
  · by_cases h2 : c ≤ 122
    all_goals
      go_enter Tryz.func193, Tryz.ntmps193
      go_wp2; go_ret; exact ⟨retb (by simp [smI, h1, h2]), rfl⟩
  · have h2 : (smI c) = false := by simp [smI]; omega
    go_enter Tryz.func193, Tryz.ntmps193
    go_wp2; go_ret; exact ⟨rfl, rfl⟩
theorem isDigit_any (c : Int) (w : World) : Calls Tryz.prog 195 #[.int .i32 c] w fun e w' => e = .returned (.bool (dgI c)) ∧ w = w' := by
  by_cases h1 : 48 ≤ c
  · by_cases h2 : c ≤ 57
    all_goals
      go_enter Tryz.func195, Tryz.ntmps195
      go_wp2; go_ret; exact ⟨retb (by simp [dgI, h1, h2]), rfl⟩
  · have h2 : (dgI c) = false := by simp [dgI]; omega
    go_enter Tryz.func195, Tryz.ntmps195
    go_wp2; go_ret; exact ⟨rfl, rfl⟩
theorem smallR_any (c : Int) (w : World) : Calls Tryz.prog 78 #[.int .u8 c] w fun e w' => e = .returned (.bool (smI c)) ∧ w = w' := by
  by_cases h1 : 97 ≤ c
  · by_cases h2 : c ≤ 122
    all_goals
      go_enter Tryz.func78, Tryz.ntmps78
      go_wp2; go_ret; exact ⟨retb (by simp [smI, h1, h2]), rfl⟩
  · have h2 : (smI c) = false := by simp [smI]; omega
    go_enter Tryz.func78, Tryz.ntmps78
    go_wp2; go_ret; exact ⟨rfl, rfl⟩
theorem digitR_any (c : Int) (w : World) : Calls Tryz.prog 124 #[.int .u8 c] w fun e w' => e = .returned (.bool (dgI c)) ∧ w = w' := by
  by_cases h1 : 48 ≤ c
  · by_cases h2 : c ≤ 57
    all_goals
      go_enter Tryz.func124, Tryz.ntmps124
      go_wp2; go_ret; exact ⟨retb (by simp [dgI, h1, h2]), rfl⟩
  · have h2 : (dgI c) = false := by simp [dgI]; omega
    go_enter Tryz.func124, Tryz.ntmps124
    go_wp2; go_ret; exact ⟨rfl, rfl⟩
set_option maxRecDepth 100000 in
set_option maxHeartbeats 4000000 in
theorem isKeyword_no (s : ByteArray) (w : World) (h : isKw s.data.toList = false) : Calls Tryz.prog 205 #[.string s] w fun e w' => e = .returned (.bool (isKw s.data.toList)) ∧ w = w' := by
  have hn : ∀ k ∈ kws, (s.toList == k) = false := fun k hk => by
    have := of_decide_eq_false h; rw [Lib.toList_data, beq_eq_false_iff_ne]; rintro rfl; exact this hk
  have n0 := hn [99, 108, 97, 115, 115] (by decide); have n1 := hn [101, 120, 116, 101, 110, 100, 115] (by decide); have n2 := hn [114, 97, 110, 100] (by decide); have n3 := hn [114, 97, 110, 100, 99] (by decide); have n4 := hn [115, 116, 97, 116, 101] (by decide); have n5 := hn [99, 111, 110, 115, 116, 114, 97, 105, 110, 116] (by decide); have n6 := hn [115, 111, 102, 116] (by decide); have n7 := hn [100, 105, 115, 116] (by decide); have n8 := hn [105, 102] (by decide); have n9 := hn [101, 108, 115, 101] (by decide); have n10 := hn [101, 97, 99, 104] (by decide); have n11 := hn [105, 110] (by decide); have n12 := hn [115, 111, 108, 118, 101] (by decide); have n13 := hn [98, 101, 102, 111, 114, 101] (by decide); have n14 := hn [105, 110, 115, 105, 100, 101] (by decide); have n15 := hn [112, 114, 111, 112, 101, 114, 116, 121] (by decide); have n16 := hn [115, 101, 113] (by decide); have n17 := hn [97, 110, 100] (by decide); have n18 := hn [111, 114] (by decide); have n19 := hn [110, 111, 116] (by decide); have n20 := hn [115, 101, 116] (by decide); have n21 := hn [104, 111, 108, 100] (by decide); have n22 := hn [112, 108, 97, 105, 110] (by decide); have n23 := hn [114, 101, 112, 101, 97, 116] (by decide); have H := Lib.hid h; clear h hn
  go_enter Tryz.func205, Tryz.ntmps205
  go_wp2; go_ret; exact ⟨retb H.out.symm, rfl⟩
set_option maxRecDepth 100000 in
set_option maxHeartbeats 4000000 in
theorem isKeyword_yes (s : ByteArray) (w : World) (h : isKw s.data.toList = true) : Calls Tryz.prog 205 #[.string s] w fun e w' => e = .returned (.bool (isKw s.data.toList)) ∧ w = w' := by
  have H := Lib.hid h; have h := of_decide_eq_true h; simp only [kws, List.mem_cons, List.not_mem_nil, or_false] at h; rcases h with h | h | h | h | h | h | h | h | h | h | h | h | h | h | h | h | h | h | h | h | h | h | h | h
  all_goals
    have e := (Lib.toList_data s).trans h; clear h
    go_enter Tryz.func205, Tryz.ntmps205
    go_wp2; go_ret; exact ⟨retb H.out.symm, rfl⟩
theorem isKeyword_any (s : ByteArray) (w : World) : Calls Tryz.prog 205 #[.string s] w fun e w' => e = .returned (.bool (isKw s.data.toList)) ∧ w = w' := by
  cases h : isKw s.data.toList
  · rw [← h]; exact isKeyword_no s w h
  · rw [← h]; exact isKeyword_yes s w h
set_option maxRecDepth 100000 in
set_option maxHeartbeats 4000000 in
theorem isMark_no (s : ByteArray) (w : World) (h : isMk s.data.toList = false) : Calls Tryz.prog 204 #[.string s] w fun e w' => e = .returned (.bool (isMk s.data.toList)) ∧ w = w' := by
  have hn : ∀ k ∈ mks, (s.toList == k) = false := fun k hk => by
    have := of_decide_eq_false h; rw [Lib.toList_data, beq_eq_false_iff_ne]; rintro rfl; exact this hk
  have n0 := hn [40] (by decide); have n1 := hn [41] (by decide); have n2 := hn [123] (by decide); have n3 := hn [125] (by decide); have n4 := hn [91] (by decide); have n5 := hn [93] (by decide); have n6 := hn [44] (by decide); have n7 := hn [59] (by decide); have n8 := hn [58] (by decide); have n9 := hn [46, 46] (by decide); have n10 := hn [63] (by decide); have n11 := hn [61] (by decide); have n12 := hn [61, 61] (by decide); have n13 := hn [33, 61] (by decide); have n14 := hn [60] (by decide); have n15 := hn [60, 61] (by decide); have n16 := hn [62] (by decide); have n17 := hn [62, 61] (by decide); have n18 := hn [60, 60] (by decide); have n19 := hn [62, 62] (by decide); have n20 := hn [43] (by decide); have n21 := hn [45] (by decide); have n22 := hn [42] (by decide); have n23 := hn [38] (by decide); have n24 := hn [124] (by decide); have n25 := hn [94] (by decide); have n26 := hn [126] (by decide); have n27 := hn [33] (by decide); have n28 := hn [38, 38] (by decide); have n29 := hn [124, 124] (by decide); have n30 := hn [45, 62] (by decide); have n31 := hn [61, 62] (by decide); have n32 := hn [58, 61] (by decide); have n33 := hn [58, 47] (by decide); have n34 := hn [35, 35] (by decide); have n35 := hn [64] (by decide); have H := Lib.hid h; clear h hn
  go_enter Tryz.func204, Tryz.ntmps204
  go_wp2; go_ret; exact ⟨retb H.out.symm, rfl⟩
set_option maxRecDepth 100000 in
set_option maxHeartbeats 4000000 in
theorem isMark_yes (s : ByteArray) (w : World) (h : isMk s.data.toList = true) : Calls Tryz.prog 204 #[.string s] w fun e w' => e = .returned (.bool (isMk s.data.toList)) ∧ w = w' := by
  have H := Lib.hid h; have h := of_decide_eq_true h; simp only [mks, List.mem_cons, List.not_mem_nil, or_false] at h; rcases h with h | h | h | h | h | h | h | h | h | h | h | h | h | h | h | h | h | h | h | h | h | h | h | h | h | h | h | h | h | h | h | h | h | h | h | h
  all_goals
    have e := (Lib.toList_data s).trans h; clear h
    go_enter Tryz.func204, Tryz.ntmps204
    go_wp2; go_ret; exact ⟨retb H.out.symm, rfl⟩
theorem isMark_any (s : ByteArray) (w : World) : Calls Tryz.prog 204 #[.string s] w fun e w' => e = .returned (.bool (isMk s.data.toList)) ∧ w = w' := by
  cases h : isMk s.data.toList
  · rw [← h]; exact isMark_no s w h
  · rw [← h]; exact isMark_yes s w h
theorem take_snoc (s : ByteArray) (k : Nat) (h : k < s.size) : s.data.toList.take (k + 1) = s.data.toList.take k ++ [s[k]] := by
  rw [List.take_succ_eq_append_getElem (by simpa using h)]; rfl
theorem len_data (s : ByteArray) : s.data.toList.length = s.size := by simp
theorem drop_cons (s : ByteArray) (k : Nat) (h : k < s.size) : s.data.toList.drop k = s[k] :: s.data.toList.drop (k + 1) := by
  rw [List.drop_eq_getElem_cons (by simpa using h)]; rfl
def wrI (c : Int) : Bool := smI c || (dgI c || ((decide (65 ≤ c) && decide (c ≤ 90)) || (c == 95)))
theorem wrI_byte (c : UInt8) : wrI (c.toNat : Int) = wrd c := by
  rw [Bool.eq_iff_iff]; simp [wrI, smI, dgI, wrd, sml, dgt, capl]; omega
theorem wrI_high {c : Int} (h : 128 ≤ c) : wrI c = false := by
  simp [wrI, smI, dgI]; omega
theorem inWord_any (c : Int) (w : World) : Calls Tryz.prog 191 #[.int .i32 c] w fun e w' => e = .returned (.bool (wrI c)) ∧ w = w' := by
  go_enter Tryz.func191, Tryz.ntmps191
  go_wp2_with (first | (go_at_call 193; refine (isSmall_any _ _).mono ?_; rintro e w' ⟨rfl, rfl⟩) | (go_at_call 195; refine (isDigit_any _ _).mono ?_; rintro e w' ⟨rfl, rfl⟩))
  all_goals
    go_ret; exact ⟨retb (by simp_all [wrI]; try (intros; omega)), rfl⟩
theorem takeWhile_at {p : UInt8 → Bool} {l : List UInt8} {k : Nat} (h : (l.take k).all p = true) (hs : l.length ≤ k ∨ ∃ c r, l.drop k = c :: r ∧ p c = false) (hk : k ≤ l.length) : (l.takeWhile p).length = k := by
  have e1 : l.takeWhile p = l.take k ++ (l.drop k).takeWhile p := by
    have := List.takeWhile_append_of_pos (p := p) (l₁ := l.take k) (l₂ := l.drop k) (fun a ha => List.all_eq_true.1 h a ha); rw [List.take_append_drop] at this; exact this
  have hlen : (l.take k).length = k := (by rw [List.length_take]; omega); rcases hs with hs | ⟨c, r, hd, hc⟩
  · rw [e1, List.drop_eq_nil_of_le hs]; simp only [List.takeWhile_nil, List.append_nil]; exact hlen
  · rw [e1, hd, List.takeWhile_cons, hc]; simp only [Bool.false_eq_true, if_false, List.append_nil]; exact hlen
def tInt (n : Nat) (w : World) (e : Ending) (w' : World) : Prop := e = .returned (.int .i64 (n : Int)) ∧ Below w.heap.size w w'
theorem tInt_mk {n m : Nat} {w w' : World} (h : m = n) (hb : Below w.heap.size w w') : tInt n w (.returned (.int .i64 (m : Int))) w' := by subst h; exact ⟨rfl, hb⟩
theorem below_iter (w : World) (s : ByteArray) (pos : Nat) : Below w.heap.size w (w.iter s pos) := (Below.refl _ _).alloc (Nat.le_refl _) _
set_option maxRecDepth 100000 in
set_option maxHeartbeats 1000000 in
theorem spanWord (s : ByteArray) (w : World) :
    Calls Tryz.prog 190 #[.string s, .func (.func 191) #[] #[]] w (tInt (wordS s.data.toList).length w) := by
  go_enter Tryz.func190, Tryz.ntmps190
  go_wp2; go_loopw [5] (fun _ wr => ∃ pos : Nat, wr = w.iter s pos ∧ pos ≤ s.size ∧ (s.data.toList.take pos).all wrd = true) (fun _ wr => s.size - wr.iterPos w.heap.size)
  case atStart => exact ⟨0, rfl, Nat.zero_le _, rfl⟩
  case round =>
    obtain ⟨pos, rfl, hk, ha⟩ := hrel; have HA := Lib.hid ha; clear ha; by_cases hp : pos < s.size
    · by_cases h7 : s[pos].toNat < 128
      · have hnx : ∀ ty, (Instr.next (.pointer (some ⟨w.heap.size, 0, none⟩)) true ty).run Tryz.prog (w.iter s pos) = _ := (fun ty => run_next_ascii w s pos ty hp h7); have HW := Lib.hid (wrI_byte s[pos]); obtain ⟨c, hc⟩ : ∃ c : Int, (s[pos].toNat : Int) = c := ⟨_, rfl⟩; rw [hc] at HW hnx; clear hc; have IW : ∀ W, Calls Tryz.prog 191 #[.int .i32 c] W fun e w' => e = .returned (.bool (wrI c)) ∧ W = w' := fun W => inWord_any c W
        rw [HW.out] at IW; cases hw : wrd s[pos]
        · have HH := Lib.hid hw; rw [hw] at IW; clear hw; have IW := Lib.hid IW; go_wp2_with (go_at_call 191; refine (IW.out _).mono ?_; rintro e w' ⟨rfl, rfl⟩)
          go_ret; exact tInt_mk (takeWhile_at HA.out (.inr ⟨_, _, drop_cons s pos hp, HH.out⟩) (by rw [len_data]; omega)).symm (below_iter _ _ _)
        · have HH := Lib.hid hw; rw [hw] at IW; clear hw; have IW := Lib.hid IW; go_wp2_with (go_at_call 191; refine (IW.out _).mono ?_; rintro e w' ⟨rfl, rfl⟩)
          go_roundw
          case rel => exact ⟨pos + 1, rfl, by omega, by rw [take_snoc s pos hp, List.all_append, HA.out]; simp [HH.out]⟩
          case measure => simp; omega
      · have hnx : ∀ ty, (Instr.next (.pointer (some ⟨w.heap.size, 0, none⟩)) true ty).run Tryz.prog (w.iter s pos) = _ := (fun ty => run_next_any w s pos ty hp); have hR := decode_high s pos hp (by omega); have HH : Hid (wrd s[pos] = false) := Lib.hid (by rw [← wrI_byte]; exact wrI_high (by omega)); obtain ⟨R, hRR⟩ : ∃ R, (Utf8.decode s pos).1 = R := ⟨_, rfl⟩; obtain ⟨K, hKK⟩ : ∃ K, (Utf8.decode s pos).2 = K := ⟨_, rfl⟩; rw [hRR, hKK] at hnx; rw [hRR] at hR; have IW : ∀ W, Calls Tryz.prog 191 #[.int .i32 (R : Int)] W fun e w' => e = .returned (.bool (wrI R)) ∧ W = w' := fun W => inWord_any R W
        rw [wrI_high (by omega)] at IW; have IW := Lib.hid IW; clear hRR hKK hR h7; go_wp2_with (go_at_call 191; refine (IW.out _).mono ?_; rintro e w' ⟨rfl, rfl⟩)
        go_ret; exact tInt_mk (takeWhile_at HA.out (.inr ⟨_, _, drop_cons s pos hp, HH.out⟩) (by rw [len_data]; omega)).symm (below_iter _ _ _)
    · have hnx : ∀ ty, (Instr.next (.pointer (some ⟨w.heap.size, 0, none⟩)) true ty).run Tryz.prog (w.iter s pos) = _ := (fun ty => run_next_end w s pos ty hp); go_wp2; go_ret; exact tInt_mk (by rw [show s.size = pos by omega]; exact (takeWhile_at HA.out (.inl (by rw [len_data]; omega)) (by rw [len_data]; omega)).symm) (below_iter _ _ _)
end Go.Proofs.YtpejflgdehioaaaGreatDoor.LexW
