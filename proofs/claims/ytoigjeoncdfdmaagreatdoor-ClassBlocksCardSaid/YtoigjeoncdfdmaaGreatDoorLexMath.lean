/-
  Plain: what a token is, what a source's tokens are, on lists of bytes; how sources one after the other, joined tokens, blanks and comments are read. No program in sight.
-/
import Derived.Test.YtoigjeoncdfdmaaGreatDoorNumText
namespace Go.Proofs.YtoigjeoncdfdmaaGreatDoor.LexM
open Go Go.RowKit Go.Proofs.YtoigjeoncdfdmaaGreatDoor.NumM

def sml (c : UInt8) : Bool := decide (97 ≤ c.toNat) && decide (c.toNat ≤ 122)
def capl (c : UInt8) : Bool := decide (65 ≤ c.toNat) && decide (c.toNat ≤ 90)
def wrd (c : UInt8) : Bool := sml c || dgt c || capl c || decide (c.toNat = 95)
def kws : List (List UInt8) := [[99, 108, 97, 115, 115], [101, 120, 116, 101, 110, 100, 115], [114, 97, 110, 100], [114, 97, 110, 100, 99], [115, 116, 97, 116, 101], [99, 111, 110, 115, 116, 114, 97, 105, 110, 116], [115, 111, 102, 116], [100, 105, 115, 116], [105, 102], [101, 108, 115, 101], [101, 97, 99, 104], [105, 110], [115, 111, 108, 118, 101], [98, 101, 102, 111, 114, 101], [105, 110, 115, 105, 100, 101], [112, 114, 111, 112, 101, 114, 116, 121], [115, 101, 113], [97, 110, 100], [111, 114], [110, 111, 116], [115, 101, 116], [104, 111, 108, 100], [112, 108, 97, 105, 110], [114, 101, 112, 101, 97, 116]]
def mks : List (List UInt8) := [[40], [41], [123], [125], [91], [93], [44], [59], [58], [46, 46], [63], [61], [61, 61], [33, 61], [60], [60, 61], [62], [62, 61], [60, 60], [62, 62], [43], [45], [42], [38], [124], [94], [126], [33], [38, 38], [124, 124], [45, 62], [61, 62], [58, 61], [58, 47], [35, 35], [64]]
def isKw (l : List UInt8) : Bool := decide (l ∈ kws)
def isMk (l : List UInt8) : Bool := decide (l ∈ mks)
structure Tk where
  kind : Int
  n : Int
  text : List UInt8
  line : Int
def zTk : Tk := ⟨0, 0, [], 0⟩
def Tk.at (t : Tk) (ln : Int) : Tk := ⟨t.kind, t.n, t.text, ln⟩
def wordS (l : List UInt8) : List UInt8 := l.takeWhile wrd
def markT (l : List UInt8) : Tk × Int := if isMk (l.take 2) then (⟨4, 0, l.take 2, 0⟩, 0) else if isMk (l.take 1) then (⟨4, 0, l.take 1, 0⟩, 0) else (zTk, 5)
def nameT (t : List UInt8) : Tk × Int := if 16 < t.length then (zTk, 2) else (⟨if isKw t then 2 else 1, 0, t, 0⟩, 0)
def numT (t : List UInt8) : Tk × Int := if (parseS t).2 = 0 then (if 2147483647 < (parseS t).1 then (zTk, 3) else (⟨3, (parseS t).1, t, 0⟩, 0)) else (zTk, (parseS t).2)
/-- The token with which a list begins, or the error. -/
def firstS (l : List UInt8) : Tk × Int := match wordS l with | [] => markT l | c :: r => if sml c then nameT (c :: r) else if dgt c then numT (c :: r) else (zTk, 5)
def cmt (l : List UInt8) : Bool := decide (l.take 2 = [47, 47])
def skipC (l : List UInt8) : List UInt8 := l.dropWhile fun c => decide (c.toNat ≠ 10)
def lexA : Nat → List UInt8 → Int → List Tk → List Tk × Int × Int
  | 0, _, _, acc => (acc, 0, 0)
  | _ + 1, [], _, acc => (acc, 0, 0)
  | f + 1, c :: r, ln, acc =>
    if c.toNat = 10 then lexA f r (ln + 1) acc
    else if c.toNat = 32 ∨ c.toNat = 9 then lexA f r ln acc
    else if cmt (c :: r) then lexA f (skipC (c :: r)) ln acc
    else if (firstS (c :: r)).2 = 0 then lexA f ((c :: r).drop (firstS (c :: r)).1.text.length) ln (acc ++ [(firstS (c :: r)).1.at ln])
    else ([], ln, (firstS (c :: r)).2)
/-- The tokens of a source from line ln on, behind those of acc. -/
def lex (l : List UInt8) (ln : Int) (acc : List Tk) : List Tk × Int × Int := lexA l.length l ln acc

/-! The tables -/
theorem kw_facts : ∀ k ∈ kws, k ≠ [] ∧ k.length ≤ 16 ∧ k.all sml = true := by decide
theorem mk_facts : ∀ m ∈ mks, m ≠ [] ∧ m.length ≤ 2 ∧ m.head? ≠ some 47 ∧ (m.all fun c => !wrd c && decide (c.toNat ≠ 10 ∧ c.toNat ≠ 32 ∧ c.toNat ≠ 9 ∧ c.toNat < 128)) = true := by decide
theorem mk_byte {m : List UInt8} (h : isMk m = true) {c : UInt8} (hc : c ∈ m) : wrd c = false ∧ c.toNat ≠ 10 ∧ c.toNat ≠ 32 ∧ c.toNat ≠ 9 ∧ c.toNat < 128 := by
  have := List.all_eq_true.1 (mk_facts m (of_decide_eq_true h)).2.2.2 c hc
  simpa using this
theorem wrd_facts {c : UInt8} (h : wrd c = true) : c.toNat ≠ 10 ∧ c.toNat ≠ 32 ∧ c.toNat ≠ 9 ∧ c.toNat < 128 ∧ c.toNat ≠ 47 := by
  simp [wrd, sml, dgt, capl] at h; omega
theorem wrd_sml {c : UInt8} (h : sml c = true) : wrd c = true := by simp [wrd, h]
theorem wrd_dgt {c : UInt8} (h : dgt c = true) : wrd c = true := by simp [wrd, h]
theorem not_mk {l : List UInt8} {c : UInt8} (h : c ∈ l) (hc : wrd c = true ∨ c.toNat = 10 ∨ c.toNat = 32 ∨ c.toNat = 9 ∨ 128 ≤ c.toNat) : isMk l = false := by
  cases e : isMk l
  · rfl
  · have f := mk_byte e h
    rcases hc with x | x | x | x | x
    · rw [x] at f; exact absurd f.1 (by decide)
    · exact absurd x f.2.1
    · exact absurd x f.2.2.1
    · exact absurd x f.2.2.2.1
    · omega
theorem mk_nil : isMk [] = false := by decide
theorem kw_byte {k : List UInt8} (h : isKw k = true) : k ≠ [] ∧ k.length ≤ 16 ∧ k.all sml = true := kw_facts k (of_decide_eq_true h)

/-! The token with which a list begins -/
theorem first_mark {l : List UInt8} (h : wordS l = []) : firstS l = markT l := by unfold firstS; rw [h]
theorem first_word {l : List UInt8} {c : UInt8} {r : List UInt8} (h : wordS l = c :: r) : firstS l = if sml c then nameT (c :: r) else if dgt c then numT (c :: r) else (zTk, 5) := by unfold firstS; rw [h]
theorem word_pre (l : List UInt8) : wordS l = l.take (wordS l).length := by
  unfold wordS
  have h : l.takeWhile wrd <+: l := List.takeWhile_prefix wrd
  exact (List.prefix_iff_eq_take.1 h)
theorem word_all (l : List UInt8) : ∀ c ∈ wordS l, wrd c = true := fun c hc => by
  have := List.all_takeWhile (p := wrd) (l := l)
  exact List.all_eq_true.1 this c hc
theorem parseS_err (t : List UInt8) : (parseS t).2 = 0 ∨ (parseS t).2 = 3 ∨ (parseS t).2 = 5 := by
  unfold parseS lim
  split
  · split <;> simp
  · simp
/-- What holds of a token that was read. -/
structure Good (l : List UInt8) (t : Tk) : Prop where
  ne : t.text ≠ []
  pre : t.text = l.take t.text.length
  byte : ∀ c ∈ t.text, c.toNat ≠ 10 ∧ c.toNat ≠ 32 ∧ c.toNat ≠ 9 ∧ c.toNat < 128
  head : t.text.head? ≠ some 47
  line : t.line = 0
theorem good_mark {l : List UInt8} (h : (markT l).2 = 0) : Good l (markT l).1 := by
  unfold markT at h ⊢
  by_cases h2 : isMk (l.take 2) = true
  · rw [if_pos h2]
    have f := mk_facts _ (of_decide_eq_true h2)
    refine ⟨f.1, ?_, fun c hc => (mk_byte h2 hc).2, f.2.2.1, rfl⟩
    rw [List.length_take]
    by_cases hl : 2 ≤ l.length
    · rw [Nat.min_eq_left hl]
    · rw [Nat.min_eq_right (by omega), List.take_of_length_le (by omega), List.take_of_length_le (by omega)]
  · rw [if_neg h2] at h ⊢
    by_cases h1 : isMk (l.take 1) = true
    · rw [if_pos h1]
      have f := mk_facts _ (of_decide_eq_true h1)
      refine ⟨f.1, ?_, fun c hc => (mk_byte h1 hc).2, f.2.2.1, rfl⟩
      rw [List.length_take]
      by_cases hl : 1 ≤ l.length
      · rw [Nat.min_eq_left hl]
      · rw [Nat.min_eq_right (by omega), List.take_of_length_le (by omega), List.take_of_length_le (by omega)]
    · rw [if_neg h1] at h
      simp at h
theorem good_word {l : List UInt8} {c : UInt8} {r : List UInt8} (h : wordS l = c :: r) {t : Tk} (ht : t.text = c :: r) (hl : t.line = 0) : Good l t := by
  have hall := word_all l
  have hp := word_pre l
  rw [h] at hall hp
  refine ⟨by rw [ht]; simp, by rw [ht]; exact hp, fun d hd => ?_, ?_, hl⟩
  · rw [ht] at hd
    have := wrd_facts (hall d hd)
    exact ⟨this.1, this.2.1, this.2.2.1, this.2.2.2.1⟩
  · rw [ht]
    intro e
    have e2 : c = 47 := by simpa using e
    exact (wrd_facts (hall c (by simp))).2.2.2.2 (by rw [e2]; rfl)
theorem first_good {l : List UInt8} (h : (firstS l).2 = 0) : Good l (firstS l).1 := by
  cases hw : wordS l with
  | nil =>
    rw [first_mark hw] at h ⊢
    exact good_mark h
  | cons c r =>
    have e := first_word hw
    rw [e] at h ⊢
    by_cases hs : sml c = true
    · rw [if_pos hs] at h ⊢
      unfold nameT at h ⊢
      by_cases h16 : 16 < (c :: r).length
      · rw [if_pos h16] at h; simp at h
      · rw [if_neg h16]; exact good_word hw rfl rfl
    · rw [if_neg hs] at h ⊢
      by_cases hd : dgt c = true
      · rw [if_pos hd] at h ⊢
        unfold numT at h ⊢
        by_cases hp : (parseS (c :: r)).2 = 0
        · rw [if_pos hp] at h ⊢
          by_cases hm : 2147483647 < (parseS (c :: r)).1
          · rw [if_pos hm] at h; simp at h
          · rw [if_neg hm]; exact good_word hw rfl rfl
        · rw [if_neg hp] at h; exact absurd h hp
      · rw [if_neg hd] at h; simp at h
theorem first_err {l : List UInt8} (h : (firstS l).2 ≠ 0) : (firstS l).1 = zTk := by
  cases hw : wordS l with
  | nil =>
    rw [first_mark hw] at h ⊢
    unfold markT at h ⊢
    split at h
    · simp at h
    · split at h
      · simp at h
      · rename_i a b; rw [if_neg a, if_neg b]
  | cons c r =>
    rw [first_word hw] at h ⊢
    unfold nameT numT at h ⊢
    repeat' split at h
    all_goals simp_all

/-! Fuel -/
theorem skipC_le (l : List UInt8) : (skipC l).length ≤ l.length := (List.dropWhile_suffix _).length_le
theorem skipC_cons {c : UInt8} (r : List UInt8) (h : c.toNat ≠ 10) : skipC (c :: r) = skipC r := by unfold skipC; rw [List.dropWhile_cons]; simp [h]
theorem skipC_stop {c : UInt8} (r : List UInt8) (h : c.toNat = 10) : skipC (c :: r) = c :: r := by unfold skipC; rw [List.dropWhile_cons]; simp [h]
theorem skipC_nil : skipC [] = [] := rfl
theorem cmt_head {c : UInt8} {r : List UInt8} (h : cmt (c :: r) = true) : c.toNat = 47 := by
  have := of_decide_eq_true h
  cases r with
  | nil => simp at this
  | cons d r => simp at this; rw [this.1]; rfl
theorem lexA_fuel : ∀ (f g : Nat) (l : List UInt8), l.length ≤ f → l.length ≤ g → ∀ ln acc, lexA f l ln acc = lexA g l ln acc := by
  intro f
  induction f with
  | zero =>
    intro g l hf hg ln acc
    obtain rfl : l = [] := List.length_eq_zero_iff.1 (by omega)
    cases g <;> rfl
  | succ f ih =>
    intro g l hf hg ln acc
    cases l with
    | nil => cases g <;> rfl
    | cons c r =>
      obtain ⟨g', rfl⟩ : ∃ g', g = g' + 1 := ⟨g - 1, by simp at hg; omega⟩
      simp only [List.length_cons] at hf hg
      simp only [lexA]
      by_cases h1 : c.toNat = 10
      · rw [if_pos h1, if_pos h1]; exact ih g' r (by omega) (by omega) _ _
      rw [if_neg h1, if_neg h1]
      by_cases h2 : c.toNat = 32 ∨ c.toNat = 9
      · rw [if_pos h2, if_pos h2]; exact ih g' r (by omega) (by omega) _ _
      rw [if_neg h2, if_neg h2]
      by_cases h3 : cmt (c :: r) = true
      · rw [if_pos h3, if_pos h3, skipC_cons r h1]
        have := skipC_le r
        exact ih g' _ (by omega) (by omega) _ _
      rw [if_neg h3, if_neg h3]
      by_cases h4 : (firstS (c :: r)).2 = 0
      · rw [if_pos h4, if_pos h4]
        have hg := (first_good h4).ne
        have : 0 < (firstS (c :: r)).1.text.length := List.length_pos_iff.2 hg
        exact ih g' _ (by rw [List.length_drop, List.length_cons]; omega) (by rw [List.length_drop, List.length_cons]; omega) _ _
      rw [if_neg h4, if_neg h4]
theorem lexA_lex {f : Nat} {l : List UInt8} (h : l.length ≤ f) (ln : Int) (acc : List Tk) : lexA f l ln acc = lex l ln acc := lexA_fuel f _ l h (Nat.le_refl _) ln acc
theorem lex_nil (ln : Int) (acc : List Tk) : lex [] ln acc = (acc, 0, 0) := rfl
theorem lex_nl {c : UInt8} (r : List UInt8) (ln : Int) (acc : List Tk) (h : c.toNat = 10) : lex (c :: r) ln acc = lex r (ln + 1) acc := by
  rw [lex, List.length_cons, lexA, if_pos h]; rfl
theorem lex_blank {c : UInt8} (r : List UInt8) (ln : Int) (acc : List Tk) (h : c.toNat = 32 ∨ c.toNat = 9) : lex (c :: r) ln acc = lex r ln acc := by
  rw [lex, List.length_cons, lexA, if_neg (by omega), if_pos h]; rfl
theorem lex_cmt {c : UInt8} (r : List UInt8) (ln : Int) (acc : List Tk) (h : cmt (c :: r) = true) : lex (c :: r) ln acc = lex (skipC (c :: r)) ln acc := by
  have hc := cmt_head h
  rw [lex, List.length_cons, lexA, if_neg (by omega), if_neg (by omega), if_pos h, lexA_lex]
  rw [skipC_cons r (by omega)]; exact skipC_le r
theorem lex_tok {c : UInt8} (r : List UInt8) (ln : Int) (acc : List Tk) (h1 : c.toNat ≠ 10) (h2 : ¬ (c.toNat = 32 ∨ c.toNat = 9)) (h3 : cmt (c :: r) = false) (h : (firstS (c :: r)).2 = 0) :
    lex (c :: r) ln acc = lex ((c :: r).drop (firstS (c :: r)).1.text.length) ln (acc ++ [(firstS (c :: r)).1.at ln]) := by
  rw [lex, List.length_cons, lexA, if_neg h1, if_neg h2, if_neg (by rw [h3]; decide), if_pos h, lexA_lex]
  have : 0 < (firstS (c :: r)).1.text.length := List.length_pos_iff.2 (first_good h).ne
  rw [List.length_drop, List.length_cons]; omega
theorem lex_err {c : UInt8} (r : List UInt8) (ln : Int) (acc : List Tk) (h1 : c.toNat ≠ 10) (h2 : ¬ (c.toNat = 32 ∨ c.toNat = 9)) (h3 : cmt (c :: r) = false) (h : (firstS (c :: r)).2 ≠ 0) :
    lex (c :: r) ln acc = ([], ln, (firstS (c :: r)).2) := by
  rw [lex, List.length_cons, lexA, if_neg h1, if_neg h2, if_neg (by rw [h3]; decide), if_neg h]
/-- Induction along a source. -/
theorem lex_ind {P : List UInt8 → Prop} (h0 : P []) (h1 : ∀ c r, (c.toNat = 10 ∨ c.toNat = 32 ∨ c.toNat = 9) → P r → P (c :: r))
    (h2 : ∀ c r, cmt (c :: r) = true → P (skipC (c :: r)) → P (c :: r))
    (h3 : ∀ c r, c.toNat ≠ 10 → ¬ (c.toNat = 32 ∨ c.toNat = 9) → cmt (c :: r) = false → (firstS (c :: r)).2 = 0 → P ((c :: r).drop (firstS (c :: r)).1.text.length) → P (c :: r))
    (h4 : ∀ c r, c.toNat ≠ 10 → ¬ (c.toNat = 32 ∨ c.toNat = 9) → cmt (c :: r) = false → (firstS (c :: r)).2 ≠ 0 → P (c :: r)) (l : List UInt8) : P l := by
  obtain ⟨n, hn⟩ : ∃ n, l.length ≤ n := ⟨_, Nat.le_refl _⟩
  induction n generalizing l with
  | zero =>
    obtain rfl : l = [] := List.length_eq_zero_iff.1 (by omega)
    exact h0
  | succ n ih =>
    cases l with
    | nil => exact h0
    | cons c r =>
      rw [List.length_cons] at hn
      by_cases b : c.toNat = 10 ∨ c.toNat = 32 ∨ c.toNat = 9
      · exact h1 c r b (ih r (by omega))
      cases hc : cmt (c :: r)
      · by_cases he : (firstS (c :: r)).2 = 0
        · refine h3 c r (by omega) (by omega) hc he (ih _ ?_)
          have : 0 < (firstS (c :: r)).1.text.length := List.length_pos_iff.2 (first_good he).ne
          rw [List.length_drop, List.length_cons]; omega
        · exact h4 c r (by omega) (by omega) hc he
      · refine h2 c r hc (ih _ ?_)
        rw [skipC_cons r (by omega)]
        have := skipC_le r
        omega
/-- The outcome of a source: tokens, 0 and 0, or no tokens, the line and the error. -/
theorem lex_out (l : List UInt8) : ∀ ln acc, ((lex l ln acc).2.2 = 0 → (lex l ln acc).2.1 = 0) ∧ ((lex l ln acc).2.2 ≠ 0 → (lex l ln acc).1 = [] ∧ ln ≤ (lex l ln acc).2.1) := by
  refine lex_ind (P := fun l => ∀ ln acc, ((lex l ln acc).2.2 = 0 → (lex l ln acc).2.1 = 0) ∧ ((lex l ln acc).2.2 ≠ 0 → (lex l ln acc).1 = [] ∧ ln ≤ (lex l ln acc).2.1)) ?_ ?_ ?_ ?_ ?_ l
  · intro ln acc; rw [lex_nil]; simp
  · intro c r b ih ln acc
    rcases b with b | b
    · rw [lex_nl r ln acc b]
      have := ih (ln + 1) acc
      exact ⟨this.1, fun h => ⟨(this.2 h).1, by have := (this.2 h).2; omega⟩⟩
    · rw [lex_blank r ln acc b]; exact ih ln acc
  · intro c r hc ih ln acc; rw [lex_cmt r ln acc hc]; exact ih ln acc
  · intro c r a b d e ih ln acc; rw [lex_tok r ln acc a b d e]; exact ih ln _
  · intro c r a b d e ln acc; rw [lex_err r ln acc a b d e]; exact ⟨fun h => absurd h e, fun _ => ⟨rfl, Int.le_refl _⟩⟩

/-! Lines shift -/
def shift (k : Int) (t : Tk) : Tk := ⟨t.kind, t.n, t.text, t.line + k⟩
theorem lex_shift (k : Int) (pre : List Tk) (l : List UInt8) : ∀ ln acc,
    lex l (ln + k) (pre ++ acc.map (shift k)) = if (lex l ln acc).2.2 = 0 then (pre ++ (lex l ln acc).1.map (shift k), 0, 0) else ([], (lex l ln acc).2.1 + k, (lex l ln acc).2.2) := by
  refine lex_ind (P := fun l => ∀ ln acc, lex l (ln + k) (pre ++ acc.map (shift k)) = if (lex l ln acc).2.2 = 0 then (pre ++ (lex l ln acc).1.map (shift k), 0, 0) else ([], (lex l ln acc).2.1 + k, (lex l ln acc).2.2)) ?_ ?_ ?_ ?_ ?_ l
  · intro ln acc; simp [lex_nil]
  · intro c r b ih ln acc
    rcases b with b | b
    · rw [lex_nl r _ _ b, lex_nl r _ _ b, show ln + k + 1 = ln + 1 + k by omega]; exact ih _ _
    · rw [lex_blank r _ _ b, lex_blank r _ _ b]; exact ih _ _
  · intro c r hc ih ln acc; rw [lex_cmt r _ _ hc, lex_cmt r _ _ hc]; exact ih _ _
  · intro c r a b d e ih ln acc
    rw [lex_tok r _ _ a b d e, lex_tok r _ _ a b d e, ← ih]
    congr 1
    rw [List.map_append, ← List.append_assoc]; rfl
  · intro c r a b d e ln acc; rw [lex_err r _ _ a b d e, lex_err r _ _ a b d e, if_neg e]

/-! Something behind -/
theorem word_app (l : List UInt8) {c : UInt8} (r : List UInt8) (hc : wrd c = false) : wordS (l ++ c :: r) = wordS l := by
  unfold wordS
  rw [List.takeWhile_append]
  split
  · rename_i h
    rw [List.takeWhile_cons, hc]
    simp only [Bool.false_eq_true, if_false, List.append_nil]
    have hp : l.takeWhile wrd <+: l := List.takeWhile_prefix wrd
    exact (hp.eq_of_length h).symm
  · rfl
theorem mark_app (l : List UInt8) {c : UInt8} (r : List UInt8) (hc : c.toNat = 10 ∨ c.toNat = 32) : markT (l ++ c :: r) = markT l := by
  have hc' : wrd c = true ∨ c.toNat = 10 ∨ c.toNat = 32 ∨ c.toNat = 9 ∨ 128 ≤ c.toNat := by omega
  match l with
  | [] =>
    have h2 : isMk ((c :: r).take 2) = false := not_mk (c := c) (by cases r <;> simp) hc'
    have h1 : isMk ((c :: r).take 1) = false := not_mk (c := c) (by simp) hc'
    have h0 : isMk (([] : List UInt8).take 2) = false := mk_nil
    have h3 : isMk (([] : List UInt8).take 1) = false := mk_nil
    simp only [markT, List.nil_append, h2, h1, h0, h3, Bool.false_eq_true, if_false]
  | [a] =>
    have h2 : isMk (([a] ++ c :: r).take 2) = false := not_mk (c := c) (by simp) hc'
    have h1 : ([a] ++ c :: r).take 1 = [a] := by simp
    unfold markT
    rw [h2, h1]
    simp only [Bool.false_eq_true, if_false]
    show (if isMk [a] = true then _ else _) = (if isMk [a] = true then _ else if isMk [a] = true then _ else _)
    split <;> rfl
  | a :: b :: l => rfl
theorem first_app (l : List UInt8) {c : UInt8} (r : List UInt8) (hc : c.toNat = 10 ∨ c.toNat = 32) : firstS (l ++ c :: r) = firstS l := by
  have hw : wrd c = false := by
    cases h : wrd c
    · rfl
    · have := wrd_facts h; omega
  unfold firstS
  rw [word_app l r hw]
  cases wordS l with
  | nil => exact mark_app l r hc
  | cons a b => rfl
theorem cmt_app {l : List UInt8} (hl : l ≠ []) {c : UInt8} (r : List UInt8) (hc : c.toNat = 10 ∨ c.toNat = 32) : cmt (l ++ c :: r) = cmt l := by
  match l with
  | [a] =>
    have h : c ≠ 47 := fun e => by rw [e] at hc; revert hc; decide
    simp [cmt, h]
  | a :: b :: l => rfl
theorem skipC_app (l : List UInt8) {c : UInt8} (r : List UInt8) (hc : c.toNat = 10) : skipC (l ++ c :: r) = skipC l ++ c :: r := by
  induction l with
  | nil => rw [List.nil_append, skipC_stop r hc, skipC_nil, List.nil_append]
  | cons a l ih =>
    rw [List.cons_append]
    by_cases ha : a.toNat = 10
    · rw [skipC_stop _ ha, skipC_stop _ ha]; rfl
    · rw [skipC_cons _ ha, skipC_cons _ ha]; exact ih
def nl (l : List UInt8) : Nat := l.countP fun c => decide (c.toNat = 10)
theorem nl_append (a b : List UInt8) : nl (a ++ b) = nl a + nl b := List.countP_append
theorem nl_cons (c : UInt8) (r : List UInt8) : nl (c :: r) = nl r + if c.toNat = 10 then 1 else 0 := by
  unfold nl; rw [List.countP_cons]; simp
theorem nl_none {l : List UInt8} (h : ∀ c ∈ l, c.toNat ≠ 10) : nl l = 0 := by
  unfold nl; rw [List.countP_eq_zero]; intro a ha; simpa using h a ha
theorem nl_skipC (l : List UInt8) : nl (skipC l) = nl l := by
  induction l with
  | nil => rfl
  | cons a l ih =>
    by_cases ha : a.toNat = 10
    · rw [skipC_stop _ ha]
    · rw [skipC_cons _ ha, nl_cons, if_neg ha, ih]; rfl
theorem nl_drop_tok {l : List UInt8} {t : Tk} (h : Good l t) : nl (l.drop t.text.length) = nl l := by
  have : nl l = nl (l.take t.text.length) + nl (l.drop t.text.length) := by rw [← nl_append, List.take_append_drop]
  rw [← h.pre, nl_none (fun c hc => (h.byte c hc).1)] at this
  omega
theorem good_len {l : List UInt8} {t : Tk} (h : Good l t) : t.text.length ≤ l.length := by
  have := congrArg List.length h.pre
  rw [List.length_take] at this
  omega
/-- A source, a line feed, and another source. -/
theorem lex_app (t : List UInt8) (s : List UInt8) : ∀ ln acc, lex (s ++ 10 :: t) ln acc = if (lex s ln acc).2.2 = 0 then lex t (ln + nl s + 1) (lex s ln acc).1 else lex s ln acc := by
  refine lex_ind (P := fun s => ∀ ln acc, lex (s ++ 10 :: t) ln acc = if (lex s ln acc).2.2 = 0 then lex t (ln + nl s + 1) (lex s ln acc).1 else lex s ln acc) ?_ ?_ ?_ ?_ ?_ s
  · intro ln acc
    rw [List.nil_append, lex_nl t ln acc rfl, lex_nil]
    simp [nl]
  · intro c r b ih ln acc
    rw [List.cons_append]
    rcases b with b | b
    · rw [lex_nl _ _ _ b, lex_nl r _ _ b, ih, nl_cons, if_pos b, show ln + 1 + (nl r : Int) + 1 = ln + ((nl r + 1 : Nat) : Int) + 1 by omega]
    · have z : nl (c :: r) = nl r := by rw [nl_cons, if_neg (by omega)]; rfl
      rw [lex_blank _ _ _ b, lex_blank r _ _ b, ih, z]
  · intro c r hc ih ln acc
    have h10 : c.toNat ≠ 10 := by have := cmt_head hc; omega
    have e1 : cmt (c :: (r ++ 10 :: t)) = true := (cmt_app (l := c :: r) (by simp) t (.inl rfl)).trans hc
    have e2 : skipC (c :: (r ++ 10 :: t)) = skipC (c :: r) ++ 10 :: t := skipC_app (c :: r) t rfl
    rw [List.cons_append, lex_cmt _ _ _ e1, e2, lex_cmt r _ _ hc, ih, nl_skipC]
  · intro c r a b d e ih ln acc
    have e1 : firstS (c :: (r ++ 10 :: t)) = firstS (c :: r) := first_app (c :: r) t (.inl rfl)
    have e2 : cmt (c :: (r ++ 10 :: t)) = false := (cmt_app (l := c :: r) (by simp) t (.inl rfl)).trans d
    have hg := first_good e
    have e3 : (c :: (r ++ 10 :: t)).drop (firstS (c :: r)).1.text.length = (c :: r).drop (firstS (c :: r)).1.text.length ++ 10 :: t := by
      rw [← List.cons_append, List.drop_append_of_le_length (good_len hg)]
    rw [List.cons_append, lex_tok _ _ _ a b e2 (by rw [e1]; exact e), e1, e3, lex_tok r _ _ a b d e, ih, nl_drop_tok hg]
  · intro c r a b d e ln acc
    have e1 : firstS (c :: (r ++ 10 :: t)) = firstS (c :: r) := first_app (c :: r) t (.inl rfl)
    have e2 : cmt (c :: (r ++ 10 :: t)) = false := (cmt_app (l := c :: r) (by simp) t (.inl rfl)).trans d
    rw [List.cons_append, lex_err _ _ _ a b e2 (by rw [e1]; exact e), lex_err r _ _ a b d e, e1, if_neg e]

/-! Valid tokens -/
def validS (t : Tk) : Bool := decide ((firstS t.text).2 = 0) && (decide ((firstS t.text).1.kind = t.kind) && (decide ((firstS t.text).1.n = t.n) && decide ((firstS t.text).1.text = t.text)))
theorem valid_iff {t : Tk} : validS t = true ↔ firstS t.text = (⟨t.kind, t.n, t.text, 0⟩, 0) := by
  constructor
  · intro h
    simp only [validS, Bool.and_eq_true, decide_eq_true_eq] at h
    obtain ⟨h0, h1, h2, h3⟩ := h
    have h4 := (first_good h0).line
    rcases hf : firstS t.text with ⟨⟨k, n, x, ln⟩, e⟩
    rw [hf] at h0 h1 h2 h3 h4
    simp only at h0 h1 h2 h3 h4
    rw [h0, h1, h2, h3, h4]
  · intro h
    simp [validS, h]
/-- A valid token, followed by a line feed or a space. -/
theorem tok_sep {t : Tk} (hv : validS t = true) {c : UInt8} (hc : c.toNat = 10 ∨ c.toNat = 32) (r : List UInt8) (ln : Int) (acc : List Tk) :
    lex (t.text ++ c :: r) ln acc = lex (c :: r) ln (acc ++ [t.at ln]) := by
  have hf := valid_iff.1 hv
  have h0 : (firstS t.text).2 = 0 := by rw [hf]
  have hg := first_good h0
  rw [hf] at hg
  have hb : ∀ c ∈ t.text, c.toNat ≠ 10 ∧ c.toNat ≠ 32 ∧ c.toNat ≠ 9 ∧ c.toNat < 128 := hg.byte
  have hh : t.text.head? ≠ some 47 := hg.head
  have hn : t.text ≠ [] := hg.ne
  obtain ⟨d, w, hw⟩ : ∃ d w, t.text = d :: w := List.exists_cons_of_ne_nil hn
  have hd := hb d (by rw [hw]; simp)
  have hf2 : firstS (t.text ++ c :: r) = (⟨t.kind, t.n, t.text, 0⟩, 0) := (first_app t.text r hc).trans hf
  have hcm : cmt (t.text ++ c :: r) = false := by
    rw [cmt_app hn r hc, hw]
    cases e : cmt (d :: w)
    · rfl
    · have := cmt_head e
      exact absurd (by rw [hw]; simp; rw [← UInt8.toNat_inj, this]; rfl) hh
  have hX : t.text ++ c :: r = d :: (w ++ c :: r) := by rw [hw]; rfl
  rw [hX] at hf2 hcm ⊢
  rw [lex_tok _ _ _ hd.1 (by omega) hcm (by rw [hf2]), hf2, ← hX]
  simp only [List.drop_left']
  rfl
theorem tok_end {t : Tk} (hv : validS t = true) (ln : Int) (acc : List Tk) : lex t.text ln acc = (acc ++ [t.at ln], 0, 0) := by
  have hf := valid_iff.1 hv
  have h0 : (firstS t.text).2 = 0 := by rw [hf]
  have hg := first_good h0
  rw [hf] at hg
  have hb : ∀ c ∈ t.text, c.toNat ≠ 10 ∧ c.toNat ≠ 32 ∧ c.toNat ≠ 9 ∧ c.toNat < 128 := hg.byte
  have hh : t.text.head? ≠ some 47 := hg.head
  obtain ⟨d, w, hw⟩ : ∃ d w, t.text = d :: w := List.exists_cons_of_ne_nil hg.ne
  have hd := hb d (by rw [hw]; simp)
  have hcm : cmt t.text = false := by
    rw [hw]
    cases e : cmt (d :: w)
    · rfl
    · have := cmt_head e
      exact absurd (by rw [hw]; simp; rw [← UInt8.toNat_inj, this]; rfl) hh
  rw [hw] at hf hcm ⊢
  rw [lex_tok _ _ _ hd.1 (by omega) hcm (by rw [hf]), hf]
  simp only [← hw, List.drop_length]
  rw [lex_nil]; rfl
/-- The texts, separated by spaces. -/
def joinT : List Tk → List UInt8
  | [] => []
  | [t] => t.text
  | t :: u :: r => t.text ++ 32 :: joinT (u :: r)
def joinS (l : List Tk) : List UInt8 × Int := if l.all validS then (joinT l, 0) else ([], 1)
theorem lex_joined (l : List Tk) (ln : Int) : ∀ acc, l.all validS = true → lex (joinT l) ln acc = (acc ++ l.map (·.at ln), 0, 0) := by
  induction l with
  | nil => intro acc _; rw [joinT, lex_nil]; simp
  | cons t r ih =>
    intro acc h
    rw [List.all_cons, Bool.and_eq_true] at h
    cases r with
    | nil => rw [joinT, tok_end h.1]; rfl
    | cons u r =>
      rw [joinT, tok_sep h.1 (.inr rfl), lex_blank _ _ _ (.inl rfl), ih _ h.2, List.append_assoc]; rfl
theorem valid_at (t : Tk) (ln : Int) : validS (t.at ln) = validS t := rfl
theorem joinT_at (l : List Tk) (ln : Int) : joinT (l.map (·.at ln)) = joinT l := by
  induction l with
  | nil => rfl
  | cons t r ih =>
    cases r with
    | nil => rfl
    | cons u r =>
      have : joinT ((t :: u :: r).map (·.at ln)) = t.text ++ 32 :: joinT ((u :: r).map (·.at ln)) := rfl
      rw [this, ih]; rfl
/-- Only the lines differ. -/
def SameT : List Tk → List Tk → Prop
  | [], [] => True
  | t :: r, u :: q => (t.kind = u.kind ∧ t.n = u.n ∧ t.text = u.text) ∧ SameT r q
  | _, _ => False
theorem same_at (l : List Tk) (ln : Int) : SameT (l.map (·.at ln)) l := by
  induction l with
  | nil => trivial
  | cons t r ih => exact ⟨⟨rfl, rfl, rfl⟩, ih⟩
theorem same_valid {t u : Tk} (h : t.kind = u.kind ∧ t.n = u.n ∧ t.text = u.text) : validS t = validS u := by
  unfold validS; rw [h.1, h.2.1, h.2.2]
theorem same_join : ∀ {l k : List Tk}, SameT l k → joinS l = joinS k := by
  have hA : ∀ {l k : List Tk}, SameT l k → l.all validS = k.all validS := by
    intro l
    induction l with
    | nil => intro k h; cases k with
      | nil => rfl
      | cons _ _ => cases h
    | cons t r ih => intro k h; cases k with
      | nil => cases h
      | cons u q => rw [List.all_cons, List.all_cons, same_valid h.1, ih h.2]
  have hT : ∀ {l k : List Tk}, SameT l k → joinT l = joinT k := by
    intro l
    induction l with
    | nil => intro k h; cases k with
      | nil => rfl
      | cons _ _ => cases h
    | cons t r ih => intro k h; cases k with
      | nil => cases h
      | cons u q =>
        have e := ih h.2
        cases r with
        | nil => cases q with
          | nil => exact h.1.2.2
          | cons _ _ => cases h.2
        | cons t' r' => cases q with
          | nil => cases h.2
          | cons u' q' => rw [joinT, joinT, e, h.1.2.2]
  intro l k h
  unfold joinS
  rw [hA h, hT h]
theorem same_len : ∀ {l k : List Tk}, SameT l k → l.length = k.length := by
  intro l
  induction l with
  | nil => intro k h; cases k with
    | nil => rfl
    | cons _ _ => cases h
  | cons t r ih => intro k h; cases k with
    | nil => cases h
    | cons u q => rw [List.length_cons, List.length_cons, ih h.2]
end Go.Proofs.YtoigjeoncdfdmaaGreatDoor.LexM
