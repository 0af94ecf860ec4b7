/-
  Expressions as texts with no Go in sight: what is printed, as tokens and blanks; how such a text is read as tokens.
-/
import Derived.Test.YtlnomiiphlbamaaGreatDoorExMath
import Derived.Test.YtlnomiiphlbamaaGreatDoorLexMath2
namespace Go.Proofs.YtlnomiiphlbamaaGreatDoor.EtM
open Go Go.Proofs.YtlnomiiphlbamaaGreatDoor.NumM Go.Proofs.YtlnomiiphlbamaaGreatDoor.LexM Go.Proofs.YtlnomiiphlbamaaGreatDoor.ExM

def insW : List UInt8 := [105, 110, 115, 105, 100, 101]
def sumW : List UInt8 := [115, 117, 109]
def onesW : List UInt8 := [111, 110, 101, 115]
/-- The mark of a binary operator as it is printed; nothing for others. -/
def bMark (o : Int) : List UInt8 :=
  if o = 21 then [61, 62] else if o = 20 then [124, 124] else if o = 19 then [38, 38] else if o = 11 then [124] else if o = 12 then [94] else if o = 10 then [38]
  else if o = 15 then [61, 61] else if o = 16 then [33, 61] else if o = 17 then [60] else if o = 18 then [60, 61] else if o = 13 then [60, 60] else if o = 14 then [62, 62]
  else if o = 7 then [43] else if o = 8 then [45] else if o = 9 then [42] else []
/-- Its level; 0 for others. -/
def bLev (o : Int) : Int :=
  if o = 21 then 2 else if o = 20 then 3 else if o = 19 then 4 else if o = 11 then 5 else if o = 12 then 6 else if o = 10 then 7
  else if o = 15 then 8 else if o = 16 then 8 else if o = 17 then 9 else if o = 18 then 9 else if o = 13 then 10 else if o = 14 then 10
  else if o = 7 then 11 else if o = 8 then 11 else if o = 9 then 12 else 0
def pMark (o : Int) : List UInt8 := if o = 4 then [33] else if o = 5 then [126] else if o = 6 then [45] else []
def lvS (o : Int) : Int := if o = 22 then 1 else if o = 23 then 9 else if bLev o ≠ 0 then bLev o else if o = 4 ∨ o = 5 ∨ o = 6 then 13 else 14
/-- A piece of a printed text: a blank, a name, keyword or number, a mark. -/
inductive Pc where
  | sp
  | wd (k n : Int) (x : List UInt8)
  | mk (x : List UInt8)
def Pc.tx : Pc → List UInt8 | .sp => [32] | .wd _ _ x => x | .mk x => x
def txP (l : List Pc) : List UInt8 := (l.map Pc.tx).flatten
def Pc.tk : Pc → List Tk | .sp => [] | .wd k n x => [⟨k, n, x, 1⟩] | .mk x => [⟨4, 0, x, 1⟩]
def toks (l : List Pc) : List Tk := (l.map Pc.tk).flatten
/-- An operand, given by its operator and its pieces, in a place of a level. -/
def plc (p : Int) (x : Int × List Pc) : List Pc := if lvS x.1 < p then .mk [40] :: (x.2 ++ [.mk [41]]) else x.2
def rgs : List (Int × List Pc) → List Pc
  | a :: b :: r => plc 1 a ++ .sp :: .mk [46, 46] :: .sp :: (plc 1 b ++ (match r with | [] => [] | _ => .mk [44] :: .sp :: rgs r))
  | _ => []
def lPl (o : Int) : Int := if bLev o = 2 then 3 else bLev o
def rPl (o : Int) : Int := if bLev o = 2 then 2 else bLev o + 1
def varP (s : List UInt8) : List Pc :=
  if elmB s then [.wd 1 0 (s.take (s.length - 3)), .mk [64], .wd 3 (((s.drop (s.length - 2)).headD 48).toNat - 48) [(s.drop (s.length - 2)).headD 48]] else [.wd 1 0 s]
def one (o : Int) (s : List UInt8) (a : Int × List Pc) : List Pc :=
  if o = 3 then .wd 1 0 s :: .mk [91] :: (plc 1 a ++ [.mk [93]]) else if o = 25 then .wd 1 0 onesW :: .mk [40] :: (plc 1 a ++ [.mk [41]]) else .mk (pMark o) :: plc 13 a
def two (o : Int) (a b : Int × List Pc) : List Pc := plc (lPl o) a ++ .sp :: .mk (bMark o) :: .sp :: plc (rPl o) b
def thr (a b c : Int × List Pc) : List Pc := plc 2 a ++ .sp :: .mk [63] :: .sp :: (plc 1 b ++ .sp :: .mk [58] :: .sp :: plc 1 c)
def ins (a : Int × List Pc) (r : List (Int × List Pc)) : List Pc := plc 9 a ++ .sp :: .wd 2 0 insW :: .sp :: .mk [123] :: .sp :: (rgs r ++ [.sp, .mk [125]])
def form (o n : Int) (s : List UInt8) (xs : List (Int × List Pc)) : List Pc :=
  if o = 1 then [.wd 3 n (Lib.itoa n)] else if o = 2 then varP s else if o = 24 then [.wd 1 0 sumW, .mk [40], .wd 1 0 s, .mk [41]]
  else if o = 23 then (match xs with | a :: r => ins a r | [] => [])
  else if o = 22 then (match xs with | [a, b, c] => thr a b c | _ => [])
  else match xs with | [a] => one o s a | [a, b] => two o a b | _ => []
mutual
def bare : Ex → List Pc
  | .mk o n s ks => form o n s.data.toList (bares ks)
def bares : List Ex → List (Int × List Pc)
  | [] => []
  | .mk o n s ks :: r => (o, bare (.mk o n s ks)) :: bares r
end
def bx (e : Ex) : Int × List Pc := (e.op, bare e)
theorem bares_eq (ks : List Ex) : bares ks = ks.map bx := by
  induction ks with
  | nil => rw [bares]; rfl
  | cons a r ih => cases a with
    | mk o n s ks => rw [bares, ih]; rfl
theorem bare_mk (o n : Int) (s : ByteArray) (ks : List Ex) : bare (.mk o n s ks) = form o n s.data.toList (ks.map bx) := by rw [bare, bares_eq]

theorem txP_nil : txP [] = [] := rfl
theorem txP_cons (p : Pc) (r : List Pc) : txP (p :: r) = p.tx ++ txP r := by simp [txP]
theorem txP_app (a b : List Pc) : txP (a ++ b) = txP a ++ txP b := by simp [txP]
theorem toks_nil : toks [] = [] := rfl
theorem toks_cons (p : Pc) (r : List Pc) : toks (p :: r) = p.tk ++ toks r := by simp [toks]
theorem toks_app (a b : List Pc) : toks (a ++ b) = toks a ++ toks b := by simp [toks]
theorem txP_plc (p : Int) (x : Int × List Pc) : txP (plc p x) = if lvS x.1 < p then 40 :: (txP x.2 ++ [41]) else txP x.2 := by
  unfold plc
  split
  · rw [txP_cons, txP_app, txP_cons, txP_nil]; rfl
  · rfl
theorem toks_plc (p : Int) (x : Int × List Pc) : toks (plc p x) = if lvS x.1 < p then ⟨4, 0, [40], 1⟩ :: (toks x.2 ++ [⟨4, 0, [41], 1⟩]) else toks x.2 := by
  unfold plc
  split
  · rw [toks_cons, toks_app, toks_cons, toks_nil]; rfl
  · rfl

/-! What a node without an error looks like. -/
inductive Sh : Int → Int → ByteArray → List Ex → Prop where
  | con (n : Int) (h0 : 0 ≤ n) (h1 : n ≤ 65535) : Sh 1 n ⟨#[]⟩ []
  | var (s : ByteArray) (h : varB s.data.toList = true) : Sh 2 0 s []
  | sum (s : ByteArray) (h : nmB s.data.toList = true) : Sh 24 0 s []
  | elm (s : ByteArray) (a : Ex) (h : nmB s.data.toList = true) : Sh 3 0 s [a]
  | ons (a : Ex) : Sh 25 0 ⟨#[]⟩ [a]
  | pre (o : Int) (a : Ex) (h : o = 4 ∨ o = 5 ∨ o = 6) : Sh o 0 ⟨#[]⟩ [a]
  | bin (o : Int) (a b : Ex) (h : 7 ≤ o) (h' : o ≤ 21) : Sh o 0 ⟨#[]⟩ [a, b]
  | iff (a b c : Ex) : Sh 22 0 ⟨#[]⟩ [a, b, c]
  | ins (a : Ex) (r : List Ex) (h1 : 2 ≤ r.length) (h2 : r.length ≤ 32) (h3 : r.length % 2 = 0) : Sh 23 0 ⟨#[]⟩ (a :: r)
theorem nm_empty {s : ByteArray} (h : s.size = 0) : s = ⟨#[]⟩ := by
  rcases s with ⟨⟨l⟩⟩
  have : l.length = 0 := h
  rw [List.length_eq_zero_iff.1 this]
theorem shape {o n : Int} {s : ByteArray} {ks : List Ex} (h : fltS ⟨0, o, n, s, ks.length⟩ = 0) : Sh o n s ks := by
  unfold fltS at h
  split at h
  · cases h
  · rename_i hA
    split at h
    · cases h
    · rename_i hN
      simp only [badA, badN, Bool.or_eq_true, Bool.and_eq_true, not_or, Bool.not_eq_true', Bool.not_eq_false, decide_eq_true_eq, Int.not_lt, not_and, decide_eq_false_iff_not] at hA hN
      obtain ⟨ht, h0, h1, h2⟩ := hA
      obtain ⟨n1, n2⟩ := hN
      have hnm : isVr o = false → isAr o = false → s = ⟨#[]⟩ := fun a b => nm_empty (by
        rcases Nat.eq_zero_or_pos s.size with g | g
        · exact g
        · exact absurd b (by rw [h2 (by omega) a]; decide))
      have hn0 : o ≠ 1 → n = 0 := fun g => by unfold greatS at h1; rw [if_neg g] at h1; omega
      by_cases c23 : o = 23
      · subst c23
        have ht' : 3 ≤ ks.length ∧ ks.length ≤ 33 ∧ ks.length % 2 = 1 := by simpa [takesS] using ht
        cases ks with
        | nil => simp at ht'
        | cons a r =>
          rw [List.length_cons] at ht'
          rw [hn0 (by decide), hnm rfl rfl]
          exact .ins a r (by omega) (by omega) (by omega)
      have ht' : (ks.length : Int) = arS o := by simpa [takesS, c23] using ht
      by_cases c1 : o = 1
      · subst c1
        have : ks = [] := by simpa [arS] using ht'
        rw [this, hnm rfl rfl]
        exact .con n h0 (by simpa [greatS] using h1)
      rw [hn0 c1]
      by_cases c2 : o = 2
      · subst c2
        have : ks = [] := by simpa [arS] using ht'
        rw [this]
        exact .var s (n1 rfl)
      by_cases c24 : o = 24
      · subst c24
        have : ks = [] := by simpa [arS] using ht'
        rw [this]
        exact .sum s (n2 rfl)
      by_cases c3 : o = 3
      · subst c3
        obtain ⟨a, ha⟩ := List.length_eq_one_iff.1 (show ks.length = 1 by simp [arS] at ht'; omega)
        rw [ha]
        exact .elm s a (n2 rfl)
      have e0 : s = ⟨#[]⟩ := hnm (by simp [isVr, c2]) (by simp [isAr, c3, c24])
      rw [e0]
      by_cases c25 : o = 25
      · subst c25
        obtain ⟨a, ha⟩ := List.length_eq_one_iff.1 (show ks.length = 1 by simp [arS] at ht'; omega)
        rw [ha]
        exact .ons a
      by_cases c4 : o = 4 ∨ o = 5 ∨ o = 6
      · obtain ⟨a, ha⟩ := List.length_eq_one_iff.1 (show ks.length = 1 by unfold arS at ht'; rw [if_neg (by omega), if_pos (by omega)] at ht'; omega)
        rw [ha]
        exact .pre o a c4
      by_cases c22 : o = 22
      · subst c22
        have hl : ks.length = 3 := by simp [arS] at ht'; omega
        match ks, hl with
        | [a, b, c], _ => exact .iff a b c
      unfold arS at ht'
      rw [if_neg (by omega), if_neg (by omega), if_neg c22, if_neg c23] at ht'
      split at ht'
      · have hl : ks.length = 2 := by omega
        match ks, hl with
        | [a, b], _ => exact .bin o a b (by omega) (by omega)
      · omega

/-! The text is read as its tokens. -/
def nb1 (l : List Pc) (nb : Option UInt8) : Option UInt8 := match txP l with | [] => nb | c :: _ => some c
def okP : Pc → Option UInt8 → Prop
  | .sp, _ => True
  | .wd k n x, nb => x ≠ [] ∧ x.all wrd = true ∧ firstS x = (⟨k, n, x, 0⟩, 0) ∧ ∀ c, nb = some c → wrd c = false
  | .mk x, nb => isMk x = true ∧ (x.length = 2 ∨ ∀ c, nb = some c → isMk (x ++ [c]) = false)
def adj : List Pc → Option UInt8 → Prop
  | [], _ => True
  | p :: r, nb => okP p (nb1 r nb) ∧ adj r nb
theorem nb1_app (a b : List Pc) (nb : Option UInt8) : nb1 (a ++ b) nb = nb1 a (nb1 b nb) := by
  unfold nb1; rw [txP_app]; cases txP a <;> rfl
theorem nb1_nil (nb : Option UInt8) : nb1 [] nb = nb := rfl
theorem adj_app (a b : List Pc) (nb : Option UInt8) : adj (a ++ b) nb ↔ adj a (nb1 b nb) ∧ adj b nb := by
  induction a with
  | nil => simp [adj]
  | cons p r ih => rw [List.cons_append, adj, adj, ih, nb1_app, and_assoc]
theorem mk_len {m : List UInt8} (h : isMk m = true) : m.length = 1 ∨ m.length = 2 := by
  have f := mk_facts m (of_decide_eq_true h)
  have : m.length ≠ 0 := fun e => f.1 (List.length_eq_zero_iff.1 e)
  omega
theorem mk_word {m : List UInt8} (h : isMk m = true) (r : List UInt8) : wordS (m ++ r) = [] := by
  have f := mk_facts m (of_decide_eq_true h)
  cases m with
  | nil => exact absurd rfl f.1
  | cons c q =>
    have := (mk_byte h (c := c) (by simp)).1
    unfold wordS
    rw [List.cons_append, List.takeWhile_cons, this]; rfl
theorem mk_app {m : List UInt8} (h : isMk m = true) {c : UInt8} {r : List UInt8} (hc : m.length = 2 ∨ isMk (m ++ [c]) = false) : firstS (m ++ c :: r) = (⟨4, 0, m, 0⟩, 0) := by
  rw [first_mark (mk_word h _)]
  unfold markT
  rcases mk_len h with hl | hl
  · have h2 : (m ++ c :: r).take 2 = m ++ [c] := by
      rw [List.take_append, List.take_of_length_le (by omega), hl]; rfl
    have h1 : (m ++ c :: r).take 1 = m := by
      rw [List.take_append, List.take_of_length_le (by omega), hl]; simp
    rw [h2, h1, if_neg (by rw [hc.resolve_left (by omega)]; decide), if_pos h]
  · have h2 : (m ++ c :: r).take 2 = m := by
      rw [List.take_append, List.take_of_length_le (by omega), hl]; simp
    rw [h2, if_pos h]
theorem wd_app {x : List UInt8} {k n : Int} (hn : x ≠ []) (ha : x.all wrd = true) (hf : firstS x = (⟨k, n, x, 0⟩, 0)) {c : UInt8} {r : List UInt8} (hc : wrd c = false) : firstS (x ++ c :: r) = (⟨k, n, x, 0⟩, 0) := by
  have hw := wordS_all ha
  obtain ⟨d, q, hx⟩ := List.exists_cons_of_ne_nil hn
  have e : wordS (x ++ c :: r) = wordS x := word_app x r hc
  rw [← hf]
  unfold firstS
  rw [e, hw, hx]
/-- One token ahead of a rest. -/
theorem lex_one {x rest : List UInt8} {k n : Int} (hf : firstS (x ++ rest) = (⟨k, n, x, 0⟩, 0)) (hb : ∃ d q, x = d :: q ∧ d.toNat ≠ 10 ∧ d.toNat ≠ 32 ∧ d.toNat ≠ 9 ∧ d.toNat ≠ 47) (ln : Int) (acc : List Tk) :
    lex (x ++ rest) ln acc = lex rest ln (acc ++ [⟨k, n, x, ln⟩]) := by
  obtain ⟨d, q, hx, h1, h2, h3, h4⟩ := hb
  have hX : x ++ rest = d :: (q ++ rest) := by rw [hx]; rfl
  have hc : cmt (d :: (q ++ rest)) = false := by
    cases e : cmt (d :: (q ++ rest))
    · rfl
    · exact absurd (cmt_head e) h4
  rw [hX] at hf ⊢
  rw [lex_tok _ _ _ h1 (by omega) hc (by rw [hf]), hf, ← hX]
  simp only [List.drop_left']
  rfl
theorem lexP (ps : List Pc) : ∀ (nb : Option UInt8) (rest : List UInt8) (acc : List Tk), rest.head? = nb → adj ps nb → lex (txP ps ++ rest) 1 acc = lex rest 1 (acc ++ toks ps) := by
  induction ps with
  | nil => intro nb rest acc _ _; rw [txP_nil, toks_nil, List.append_nil]; rfl
  | cons p r ih =>
    intro nb rest acc hr h
    obtain ⟨h1, h2⟩ := h
    have hhd : (txP r ++ rest).head? = nb1 r nb := by
      unfold nb1
      cases e : txP r with
      | nil => exact hr
      | cons c q => rfl
    rw [txP_cons, toks_cons, List.append_assoc]
    cases p with
    | sp =>
      show lex (32 :: (txP r ++ rest)) 1 acc = _
      rw [lex_blank _ _ _ (.inl rfl), ih nb rest acc hr h2]; rfl
    | wd k n x =>
      obtain ⟨hn, ha, hf, hc⟩ := h1
      have hf2 : firstS (x ++ (txP r ++ rest)) = (⟨k, n, x, 0⟩, 0) := by
        cases e : txP r ++ rest with
        | nil => rw [List.append_nil]; exact hf
        | cons c q => exact wd_app hn ha hf (hc c (by rw [← hhd, e]; rfl))
      show lex (x ++ (txP r ++ rest)) 1 acc = _
      rw [lex_one hf2 (by
        obtain ⟨d, q, hx⟩ := List.exists_cons_of_ne_nil hn
        have hd : wrd d = true := List.all_eq_true.1 ha d (by rw [hx]; simp)
        have := wrd_facts hd
        exact ⟨d, q, hx, this.1, this.2.1, this.2.2.1, this.2.2.2.2⟩), ih nb rest _ hr h2, List.append_assoc]
      rfl
    | mk x =>
      obtain ⟨hm, hc⟩ := h1
      have hf2 : firstS (x ++ (txP r ++ rest)) = (⟨4, 0, x, 0⟩, 0) := by
        cases e : txP r ++ rest with
        | nil => rw [List.append_nil]; exact mk_first hm
        | cons c q => exact mk_app hm (hc.imp id (fun g => g c (by rw [← hhd, e]; rfl)))
      show lex (x ++ (txP r ++ rest)) 1 acc = _
      rw [lex_one hf2 (by
        have f := mk_facts x (of_decide_eq_true hm)
        obtain ⟨d, q, hx⟩ := List.exists_cons_of_ne_nil f.1
        have hb := mk_byte hm (c := d) (by rw [hx]; simp)
        refine ⟨d, q, hx, hb.2.1, hb.2.2.1, hb.2.2.2.1, fun g => f.2.2.1 ?_⟩
        rw [hx, List.head?_cons, ← UInt8.toNat_inj.1 (show d.toNat = (47 : UInt8).toNat from g)]), ih nb rest _ hr h2, List.append_assoc]
      rfl
/-- What may follow an operand. -/
def Nb (nb : Option UInt8) : Prop := nb = none ∨ nb = some 32 ∨ nb = some 41 ∨ nb = some 93 ∨ nb = some 44
/-- What an operand may begin with. -/
def Hd (c : UInt8) : Prop := wrd c = true ∨ c = 40 ∨ c = 33 ∨ c = 126 ∨ c = 45
theorem hd_mk {c : UInt8} (h : Hd c) {m : UInt8} (hm : m = 40 ∨ m = 91 ∨ m = 33 ∨ m = 126 ∨ m = 45) : isMk ([m] ++ [c]) = false := by
  rcases h with h | h
  · exact not_mk (c := c) (by simp) (.inl h)
  · rcases hm with rfl | rfl | rfl | rfl | rfl <;> rcases h with rfl | rfl | rfl | rfl <;> decide
theorem nb_mk {nb : Option UInt8} (h : Nb nb) {m : UInt8} (hm : m = 41 ∨ m = 93 ∨ m = 125) : ∀ c, nb = some c → isMk ([m] ++ [c]) = false := by
  intro c hc
  rcases h with h | h | h | h | h
  · rw [h] at hc; cases hc
  all_goals
    rw [h] at hc
    cases hc
    rcases hm with rfl | rfl | rfl <;> decide
theorem nb_wd {nb : Option UInt8} (h : Nb nb) : ∀ c, nb = some c → wrd c = false := by
  intro c hc
  rcases h with h | h | h | h | h
  · rw [h] at hc; cases hc
  all_goals
    rw [h] at hc
    cases hc
    decide
/-- An operand's pieces. -/
structure Op (l : List Pc) : Prop where
  adj : ∀ nb, Nb nb → EtM.adj l nb
  hd : ∃ c q, txP l = c :: q ∧ Hd c
theorem Op.nb {l : List Pc} (h : Op l) (nb : Option UInt8) : ∃ c, nb1 l nb = some c ∧ Hd c := by
  obtain ⟨c, q, e, hc⟩ := h.hd
  exact ⟨c, by unfold nb1; rw [e], hc⟩
theorem mk_ok {m : UInt8} {nb : Option UInt8} (h1 : isMk [m] = true) (h2 : ∀ c, nb = some c → isMk ([m] ++ [c]) = false) : okP (.mk [m]) nb := ⟨h1, .inr h2⟩
/-- A mark of one byte ahead of an operand. -/
theorem mk_op {m : UInt8} (h1 : isMk [m] = true) (hm : m = 40 ∨ m = 91 ∨ m = 33 ∨ m = 126 ∨ m = 45) {l : List Pc} (h : Op l) (nb : Option UInt8) : okP (.mk [m]) (nb1 l nb) := by
  obtain ⟨c, e, hc⟩ := h.nb nb
  refine mk_ok h1 (fun d hd => ?_)
  rw [e] at hd
  cases hd
  exact hd_mk hc hm
theorem mk_end {m : UInt8} (h1 : isMk [m] = true) (hm : m = 41 ∨ m = 93 ∨ m = 125) {nb : Option UInt8} (h : Nb nb) : okP (.mk [m]) nb := mk_ok h1 (nb_mk h hm)
theorem Nb.sp : Nb (some 32) := .inr (.inl rfl)
theorem plc_op (p : Int) {x : Int × List Pc} (h : Op x.2) : Op (plc p x) := by
  unfold plc
  split
  · refine ⟨fun nb hnb => ⟨?_, (adj_app _ _ _).2 ⟨h.adj _ (.inr (.inr (.inl rfl))), ⟨mk_end rfl (.inl rfl) hnb, trivial⟩⟩⟩, ⟨40, _, rfl, .inr (.inl rfl)⟩⟩
    rw [nb1_app]
    exact mk_op rfl (.inl rfl) h _
  · exact h
theorem wd_ok {k n : Int} {x : List UInt8} {nb : Option UInt8} (hn : x ≠ []) (ha : x.all wrd = true) (hf : firstS x = (⟨k, n, x, 0⟩, 0)) (h : ∀ c, nb = some c → wrd c = false) : okP (.wd k n x) nb := ⟨hn, ha, hf, h⟩
theorem nm_parts {x : List UInt8} (h : nmB x = true) : x ≠ [] ∧ x.all wrd = true ∧ firstS x = (⟨1, 0, x, 0⟩, 0) ∧ x.length ≤ 16 := by
  have h2 := valid_iff.1 ((name_iff x).trans h)
  cases x with
  | nil => cases h
  | cons c r =>
    simp only [nmB, Bool.and_eq_true, decide_eq_true_eq] at h
    exact ⟨by simp, h.2.2.2, h2, h.1⟩
theorem dgt_wrd {c : UInt8} (h : dgt c = true) : wrd c = true := wrd_dgt h
theorem itoa_parts {n : Int} (h0 : 0 ≤ n) (h1 : n ≤ 65535) : Lib.itoa n ≠ [] ∧ (Lib.itoa n).all wrd = true ∧ firstS (Lib.itoa n) = (⟨3, n, Lib.itoa n, 0⟩, 0) := by
  have hf := itoa_first h0 (show n ≤ 2147483647 by omega)
  have hd := dec_spec n.toNat
  have he : Lib.itoa n = Lib.decDigits n.toNat := by unfold Lib.itoa; rw [if_neg (by omega)]
  refine ⟨by rw [he]; exact hd.2.1, ?_, hf⟩
  rw [he, List.all_eq_true]
  exact fun c hc => wrd_dgt (List.all_eq_true.1 hd.1 c hc)
theorem hd_of_all {x : List UInt8} (hn : x ≠ []) (ha : x.all wrd = true) (r : List UInt8) : ∃ c q, x ++ r = c :: q ∧ Hd c := by
  obtain ⟨c, q, e⟩ := List.exists_cons_of_ne_nil hn
  exact ⟨c, q ++ r, by rw [e]; rfl, .inl (List.all_eq_true.1 ha c (by rw [e]; simp))⟩
theorem nb1_mk (m : UInt8) (q : List UInt8) (r : List Pc) (nb : Option UInt8) : nb1 (.mk (m :: q) :: r) nb = some m := by unfold nb1; rw [txP_cons]; rfl
theorem nb1_sp (r : List Pc) (nb : Option UInt8) : nb1 (.sp :: r) nb = some 32 := by unfold nb1; rw [txP_cons]; rfl
theorem fst_wd {m : UInt8} (h : wrd m = false) : ∀ c, some m = some c → wrd c = false := fun c e => by cases e; exact h
/-- The parts of an element name. -/
theorem elm_parts {s : List UInt8} (h : elmB s = true) : ∃ (r : List UInt8) (d : UInt8), s = r ++ [91, d, 93] ∧ nmB r = true ∧ 48 ≤ d.toNat ∧ d.toNat ≤ 55 := by
  unfold elmB at h
  split at h
  · rename_i c d b r e
    simp only [Bool.and_eq_true, decide_eq_true_eq] at h
    obtain ⟨rfl, rfl, ⟨h1, h2⟩, h3⟩ := h
    refine ⟨r.reverse, d, ?_, h3, h1, h2⟩
    have := congrArg List.reverse e
    rw [List.reverse_reverse] at this
    rw [this]; simp
  · cases h
theorem varP_elm {s r : List UInt8} {d : UInt8} (h : s = r ++ [91, d, 93]) (he : elmB s = true) : varP s = [.wd 1 0 r, .mk [64], .wd 3 (d.toNat - 48) [d]] := by
  unfold varP
  rw [if_pos he]
  have hl : s.length = r.length + 3 := by rw [h]; simp
  have e1 : s.take (s.length - 3) = r := by rw [hl, h, show r.length + 3 - 3 = r.length by omega, List.take_left']; rfl
  have e2 : s.drop (s.length - 2) = [d, 93] := by
    rw [hl, h, show r.length + 3 - 2 = r.length + 1 by omega, List.drop_append, List.drop_of_length_le (by omega), show r.length + 1 - r.length = 1 by omega]; rfl
  rw [e1, e2]; rfl
theorem dig_itoa {d : UInt8} (h1 : 48 ≤ d.toNat) (h2 : d.toNat ≤ 57) : Lib.itoa ((d.toNat : Int) - 48) = [d] := by
  have he : Lib.itoa ((d.toNat : Int) - 48) = Lib.decDigits (d.toNat - 48) := by unfold Lib.itoa; rw [if_neg (by omega)]; congr 1; omega
  rw [he, dec_small (by omega)]
  congr 1
  rw [← UInt8.toNat_inj, dig_toNat (by omega)]; omega
theorem var_op {s : List UInt8} (h : varB s = true) : Op (varP s) := by
  unfold varB at h
  by_cases he : elmB s = true
  · obtain ⟨r, d, e, hr, h1, h2⟩ := elm_parts he
    rw [varP_elm e he]
    have p := nm_parts hr
    have q := itoa_parts (n := (d.toNat : Int) - 48) (by omega) (by omega)
    rw [dig_itoa h1 (by omega)] at q
    refine ⟨fun nb hnb => ⟨wd_ok p.1 p.2.1 p.2.2.1 (by rw [nb1_mk]; exact fst_wd (by decide)), ⟨mk_ok (by decide) (fun c hc => ?_), ⟨wd_ok q.1 q.2.1 q.2.2 (nb_wd hnb), trivial⟩⟩⟩, ?_⟩
    · have : nb1 [Pc.wd 3 ((d.toNat : Int) - 48) [d]] nb = some d := rfl
      rw [this] at hc
      cases hc
      exact not_mk (c := d) (by simp) (.inl (List.all_eq_true.1 q.2.1 d (by simp)))
    · rw [txP_cons]; exact hd_of_all p.1 p.2.1 _
  · have hs : nmB s = true := by
      cases e : elmB s
      · rw [e] at h; simpa using h
      · exact absurd e he
    have p := nm_parts hs
    unfold varP
    rw [if_neg he]
    exact ⟨fun nb hnb => ⟨wd_ok p.1 p.2.1 p.2.2.1 (nb_wd hnb), trivial⟩, by rw [txP_cons]; exact hd_of_all p.1 p.2.1 _⟩
theorem sp_cons {l : List Pc} {nb : Option UInt8} (h : adj l nb) : adj (.sp :: l) nb := ⟨trivial, h⟩
theorem mk_sp {m : List UInt8} (hm : isMk m = true) {l : List Pc} {nb : Option UInt8} (h : adj l nb) : adj (.mk m :: .sp :: l) nb := by
  refine ⟨⟨hm, .inr (fun c hc => ?_)⟩, sp_cons h⟩
  rw [nb1_sp] at hc
  cases hc
  exact not_mk (c := 32) (by simp) (by decide)
theorem op_sp {a l : List Pc} (ha : Op a) {nb : Option UInt8} (h : adj l nb) : adj (a ++ .sp :: l) nb := (adj_app _ _ _).2 ⟨by rw [nb1_sp]; exact ha.adj _ .sp, sp_cons h⟩
theorem op_hd {a : List Pc} (ha : Op a) (l : List Pc) : ∃ c q, txP (a ++ l) = c :: q ∧ Hd c := by
  obtain ⟨c, q, e, hc⟩ := ha.hd
  exact ⟨c, q ++ txP l, by rw [txP_app, e]; rfl, hc⟩
theorem rgs_adj : ∀ (n : Nat) (xs : List (Int × List Pc)), xs.length ≤ n → (∀ x ∈ xs, Op x.2) → adj (rgs xs) (some 32)
  | 0, xs, h, _ => by
    obtain rfl : xs = [] := List.length_eq_zero_iff.1 (by omega)
    exact trivial
  | n + 1, xs, h, hx => by
    match xs, h, hx with
    | [], _, _ => exact trivial
    | [a], _, _ => exact trivial
    | a :: b :: r, h, hx =>
      have ha := plc_op 1 (hx a (by simp))
      have hb := plc_op 1 (hx b (by simp))
      have hr := rgs_adj n r (by simp at h; omega) (fun x hxr => hx x (by simp [hxr]))
      cases r with
      | nil =>
        rw [rgs]
        exact op_sp ha (mk_sp (by decide) ((adj_app _ _ _).2 ⟨hb.adj _ .sp, trivial⟩))
      | cons c r' =>
        rw [rgs]
        · exact op_sp ha (mk_sp (by decide) ((adj_app _ _ _).2 ⟨hb.adj _ (by rw [nb1_mk]; exact .inr (.inr (.inr (.inr rfl)))), mk_sp (by decide) hr⟩))
        · simp
theorem bMark_mk {o : Int} (h : 7 ≤ o) (h' : o ≤ 21) : isMk (bMark o) = true := by
  have : o = 7 ∨ o = 8 ∨ o = 9 ∨ o = 10 ∨ o = 11 ∨ o = 12 ∨ o = 13 ∨ o = 14 ∨ o = 15 ∨ o = 16 ∨ o = 17 ∨ o = 18 ∨ o = 19 ∨ o = 20 ∨ o = 21 := by omega
  rcases this with rfl | rfl | rfl | rfl | rfl | rfl | rfl | rfl | rfl | rfl | rfl | rfl | rfl | rfl | rfl <;> decide
theorem form_bin {o n : Int} {s : List UInt8} {a b : Int × List Pc} (h : 7 ≤ o) (h' : o ≤ 21) : form o n s [a, b] = two o a b := by
  unfold form
  rw [if_neg (by omega), if_neg (by omega), if_neg (by omega), if_neg (by omega), if_neg (by omega)]
theorem form_pre {o n : Int} {s : List UInt8} {a : Int × List Pc} (h : o = 4 ∨ o = 5 ∨ o = 6) : form o n s [a] = .mk (pMark o) :: plc 13 a := by
  unfold form
  rw [if_neg (by omega), if_neg (by omega), if_neg (by omega), if_neg (by omega), if_neg (by omega)]
  show one o s a = _
  unfold one
  rw [if_neg (by omega), if_neg (by omega)]
theorem form_op {o n : Int} {s : ByteArray} {ks : List Ex} (h : Sh o n s ks) (hk : ∀ a ∈ ks, Op (bare a)) : Op (form o n s.data.toList (ks.map bx)) := by
  cases h with
  | con _ h0 h1 =>
    have q := itoa_parts h0 h1
    exact ⟨fun nb hnb => ⟨wd_ok q.1 q.2.1 q.2.2 (nb_wd hnb), trivial⟩, by rw [show form 1 n (ByteArray.mk #[]).data.toList (List.map bx []) = [.wd 3 n (Lib.itoa n)] from rfl, txP_cons]; exact hd_of_all q.1 q.2.1 _⟩
  | var _ h => exact var_op h
  | sum _ h =>
    have p := nm_parts h
    have q := nm_parts (x := sumW) (by decide)
    refine ⟨fun nb hnb => ⟨wd_ok q.1 q.2.1 q.2.2.1 (by rw [nb1_mk]; exact fst_wd (by decide)), ⟨mk_ok (by decide) (fun c hc => ?_), ⟨wd_ok p.1 p.2.1 p.2.2.1 (by rw [nb1_mk]; exact fst_wd (by decide)), ⟨mk_end rfl (.inl rfl) hnb, trivial⟩⟩⟩⟩, ⟨115, _, rfl, .inl (by decide)⟩⟩
    obtain ⟨d, r, e⟩ := List.exists_cons_of_ne_nil p.1
    have : nb1 [Pc.wd 1 0 s.data.toList, .mk [41]] nb = some d := by unfold nb1; rw [txP_cons]; simp only [Pc.tx]; rw [e]; rfl
    rw [this] at hc
    obtain rfl : d = c := Option.some.inj hc
    exact not_mk (c := d) (by simp) (.inl (List.all_eq_true.1 p.2.1 d (by rw [e]; simp)))
  | elm _ a h =>
    have p := nm_parts h
    have ha := plc_op 1 (x := bx a) (hk a (by simp))
    refine ⟨fun nb hnb => ⟨wd_ok p.1 p.2.1 p.2.2.1 (by rw [nb1_mk]; exact fst_wd (by decide)), ⟨by rw [nb1_app]; exact mk_op rfl (.inr (.inl rfl)) ha _, (adj_app _ _ _).2 ⟨ha.adj _ (.inr (.inr (.inr (.inl rfl)))), ⟨mk_end rfl (.inr (.inl rfl)) hnb, trivial⟩⟩⟩⟩, ?_⟩
    show ∃ c q, txP (.wd 1 0 s.data.toList :: _) = c :: q ∧ Hd c
    rw [txP_cons]; exact hd_of_all p.1 p.2.1 _
  | ons a =>
    have q := nm_parts (x := onesW) (by decide)
    have ha := plc_op 1 (x := bx a) (hk a (by simp))
    exact ⟨fun nb hnb => ⟨wd_ok q.1 q.2.1 q.2.2.1 (by rw [nb1_mk]; exact fst_wd (by decide)), ⟨by rw [nb1_app]; exact mk_op rfl (.inl rfl) ha _, (adj_app _ _ _).2 ⟨ha.adj _ (.inr (.inr (.inl rfl))), ⟨mk_end rfl (.inl rfl) hnb, trivial⟩⟩⟩⟩, ⟨111, _, rfl, .inl (by decide)⟩⟩
  | pre _ a h =>
    have ha := plc_op 13 (x := bx a) (hk a (by simp))
    show Op (form o 0 _ [bx a])
    rw [form_pre h]
    rcases h with rfl | rfl | rfl
    · exact ⟨fun nb hnb => ⟨mk_op rfl (.inr (.inr (.inl rfl))) ha _, ha.adj nb hnb⟩, ⟨33, _, rfl, .inr (.inr (.inl rfl))⟩⟩
    · exact ⟨fun nb hnb => ⟨mk_op rfl (.inr (.inr (.inr (.inl rfl)))) ha _, ha.adj nb hnb⟩, ⟨126, _, rfl, .inr (.inr (.inr (.inl rfl)))⟩⟩
    · exact ⟨fun nb hnb => ⟨mk_op rfl (.inr (.inr (.inr (.inr rfl)))) ha _, ha.adj nb hnb⟩, ⟨45, _, rfl, .inr (.inr (.inr (.inr rfl)))⟩⟩
  | bin _ a b h h' =>
    have ha := plc_op (lPl o) (x := bx a) (hk a (by simp))
    have hb := plc_op (rPl o) (x := bx b) (hk b (by simp))
    show Op (form o 0 _ [bx a, bx b])
    rw [form_bin h h']
    exact ⟨fun nb hnb => op_sp ha (mk_sp (bMark_mk h h') (hb.adj nb hnb)), op_hd ha _⟩
  | iff a b c =>
    have ha := plc_op 2 (x := bx a) (hk a (by simp))
    have hb := plc_op 1 (x := bx b) (hk b (by simp))
    have hc := plc_op 1 (x := bx c) (hk c (by simp))
    exact ⟨fun nb hnb => op_sp ha (mk_sp (by decide) (op_sp hb (mk_sp (by decide) (hc.adj nb hnb)))), op_hd ha _⟩
  | ins a r h1 h2 h3 =>
    have ha := plc_op 9 (x := bx a) (hk a (by simp))
    have hr := rgs_adj _ (r.map bx) (Nat.le_refl _) (fun x hx => by
      obtain ⟨e, he, rfl⟩ := List.mem_map.1 hx
      exact hk e (by simp [he]))
    refine ⟨fun nb hnb => op_sp ha ⟨wd_ok (by decide) (by decide) (kw_first (by decide)) (by rw [nb1_sp]; exact fst_wd (by decide)), sp_cons (mk_sp (by decide) ((adj_app _ _ _).2 ⟨?_, sp_cons ⟨mk_end rfl (.inr (.inr rfl)) hnb, trivial⟩⟩))⟩, op_hd ha _⟩
    rw [nb1_sp]; exact hr
theorem bare_op (e : Ex) : Ok e → Op (bare e) := by
  induction e using Ex.ind with
  | h o n s ks ih =>
    intro h
    obtain ⟨h1, h2⟩ := (ok_mk o n s ks).1 h
    rw [bare_mk]
    exact form_op (shape h1) (fun a ha => ih a ha (h2 a ha))
/-- What is printed. -/
def prn (e : Ex) : List UInt8 := txP (bare e)
theorem lex_prn {e : Ex} (h : Ok e) : lex (prn e) 1 [] = (toks (bare e), 0, 0) := by
  have := lexP (bare e) none [] [] rfl ((bare_op e h).adj none (.inl rfl))
  rw [List.append_nil, List.nil_append, lex_nil] at this
  exact this
end Go.Proofs.YtlnomiiphlbamaaGreatDoor.EtM
