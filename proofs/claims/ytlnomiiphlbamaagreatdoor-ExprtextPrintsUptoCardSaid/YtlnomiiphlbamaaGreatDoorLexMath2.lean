/-
  Plain: how many tokens a source has at most; gaps between tokens; blanks ahead of a mark; a source behind another.
-/
import Derived.Test.YtlnomiiphlbamaaGreatDoorLexMath
namespace Go.Proofs.YtlnomiiphlbamaaGreatDoor.LexM
open Go Go.RowKit Go.Proofs.YtlnomiiphlbamaaGreatDoor.NumM

theorem lex_len (l : List UInt8) : ∀ ln acc, (lex l ln acc).1.length ≤ acc.length + l.length := by
  refine lex_ind (P := fun l => ∀ ln acc, (lex l ln acc).1.length ≤ acc.length + l.length) ?_ ?_ ?_ ?_ ?_ l
  · intro ln acc; rw [lex_nil]; simp
  · intro c r b ih ln acc
    rcases b with b | b
    · rw [lex_nl _ _ _ b, List.length_cons]; have := ih (ln + 1) acc; omega
    · rw [lex_blank _ _ _ b, List.length_cons]; have := ih ln acc; omega
  · intro c r hc ih ln acc
    rw [lex_cmt _ _ _ hc]
    have h1 := ih ln acc
    have h2 := skipC_le (c :: r)
    omega
  · intro c r a b d e ih ln acc
    rw [lex_tok _ _ _ a b d e]
    have h1 := ih ln (acc ++ [(firstS (c :: r)).1.at ln])
    have h2 := List.length_pos_iff.2 (first_good e).ne
    rw [List.length_append, List.length_drop] at h1
    simp only [List.length_cons, List.length_nil] at h1 ⊢
    omega
  · intro c r a b d e ln acc; rw [lex_err _ _ _ a b d e]; simp
theorem lex_lineb (l : List UInt8) : ∀ ln acc, 0 ≤ ln → 0 ≤ (lex l ln acc).2.1 ∧ (lex l ln acc).2.1 ≤ ln + l.length := by
  refine lex_ind (P := fun l => ∀ ln acc, 0 ≤ ln → 0 ≤ (lex l ln acc).2.1 ∧ (lex l ln acc).2.1 ≤ ln + l.length) ?_ ?_ ?_ ?_ ?_ l
  · intro ln acc h; rw [lex_nil]; simp; omega
  · intro c r b ih ln acc h
    rcases b with b | b
    · rw [lex_nl _ _ _ b, List.length_cons]; have := ih (ln + 1) acc (by omega); omega
    · rw [lex_blank _ _ _ b, List.length_cons]; have := ih ln acc h; omega
  · intro c r hc ih ln acc h
    rw [lex_cmt _ _ _ hc]
    have h1 := ih ln acc h
    have h2 := skipC_le (c :: r)
    omega
  · intro c r a b d e ih ln acc h
    rw [lex_tok _ _ _ a b d e]
    have h1 := ih ln (acc ++ [(firstS (c :: r)).1.at ln]) h
    rw [List.length_drop] at h1
    omega
  · intro c r a b d e ln acc h; rw [lex_err _ _ _ a b d e]; simp only [List.length_cons]; omega
theorem lex_lines (l : List UInt8) : ∀ ln acc, ∀ u ∈ (lex l ln acc).1, u ∈ acc ∨ (ln ≤ u.line ∧ u.line ≤ ln + l.length) := by
  refine lex_ind (P := fun l => ∀ ln acc, ∀ u ∈ (lex l ln acc).1, u ∈ acc ∨ (ln ≤ u.line ∧ u.line ≤ ln + l.length)) ?_ ?_ ?_ ?_ ?_ l
  · intro ln acc u hu; rw [lex_nil] at hu; exact .inl hu
  · intro c r b ih ln acc u hu
    rw [List.length_cons]
    rcases b with b | b
    · rw [lex_nl _ _ _ b] at hu
      rcases ih (ln + 1) acc u hu with h | h
      · exact .inl h
      · exact .inr ⟨by omega, by omega⟩
    · rw [lex_blank _ _ _ b] at hu
      rcases ih ln acc u hu with h | h
      · exact .inl h
      · exact .inr ⟨by omega, by omega⟩
  · intro c r hc ih ln acc u hu
    rw [lex_cmt _ _ _ hc] at hu
    have h2 := skipC_le (c :: r)
    rcases ih ln acc u hu with h | h
    · exact .inl h
    · exact .inr ⟨by omega, by omega⟩
  · intro c r a b d e ih ln acc u hu
    rw [lex_tok _ _ _ a b d e] at hu
    rcases ih ln _ u hu with h | h
    · rcases List.mem_append.1 h with h | h
      · exact .inl h
      · have hu2 : u = (firstS (c :: r)).1.at ln := by simpa using h
        refine .inr ?_
        rw [hu2]
        show ln ≤ ln ∧ ln ≤ _
        omega
    · rw [List.length_drop] at h
      exact .inr ⟨h.1, by omega⟩
  · intro c r a b d e ln acc u hu; rw [lex_err _ _ _ a b d e] at hu; cases hu
/-- A gap is read over. -/
def GapOk (g : List UInt8) : Prop := (∃ c r, g = c :: r ∧ (c.toNat = 10 ∨ c.toNat = 32)) ∧ ∃ m : Int, ∀ rest ln acc, lex (g ++ rest) ln acc = lex rest (ln + m) acc
theorem gap0 : GapOk [32, 9, 32] := ⟨⟨_, _, rfl, .inr rfl⟩, 0, fun rest ln acc => by
  rw [List.cons_append, lex_blank _ _ _ (.inl rfl), List.cons_append, lex_blank _ _ _ (.inr rfl), List.cons_append, lex_blank _ _ _ (.inl rfl), List.nil_append, Int.add_zero]⟩
theorem gap1 : GapOk [10, 10] := ⟨⟨_, _, rfl, .inl rfl⟩, 2, fun rest ln acc => by
  rw [List.cons_append, lex_nl _ _ _ rfl, List.cons_append, lex_nl _ _ _ rfl, List.nil_append, show ln + 1 + 1 = ln + 2 by omega]⟩
theorem skip_body (b : List UInt8) (h : ∀ c ∈ b, c.toNat ≠ 10) (rest : List UInt8) : skipC (b ++ 10 :: rest) = 10 :: rest := by
  induction b with
  | nil => exact skipC_stop rest rfl
  | cons c r ih => rw [List.cons_append, skipC_cons _ (h c (by simp)), ih (fun d hd => h d (by simp [hd]))]
theorem gap2 : GapOk [32, 47, 47, 32, 120, 32, 123, 32, 34, 32, 64, 10] := ⟨⟨_, _, rfl, .inr rfl⟩, 1, fun rest ln acc => by
  have e : ([32, 47, 47, 32, 120, 32, 123, 32, 34, 32, 64, 10] : List UInt8) ++ rest = 32 :: (47 :: 47 :: [32, 120, 32, 123, 32, 34, 32, 64] ++ 10 :: rest) := rfl
  rw [e, lex_blank _ _ _ (.inl rfl)]
  have e2 : (47 :: 47 :: [32, 120, 32, 123, 32, 34, 32, 64] ++ 10 :: rest : List UInt8) = 47 :: (47 :: [32, 120, 32, 123, 32, 34, 32, 64] ++ 10 :: rest) := rfl
  rw [e2, lex_cmt _ _ _ (by rfl), ← e2, skip_body _ (by decide), lex_nl _ _ _ rfl]⟩
theorem gap3 : GapOk [10, 47, 47, 10, 32] := ⟨⟨_, _, rfl, .inl rfl⟩, 2, fun rest ln acc => by
  have e : ([10, 47, 47, 10, 32] : List UInt8) ++ rest = 10 :: ([47, 47] ++ 10 :: 32 :: rest) := rfl
  rw [e, lex_nl _ _ _ rfl]
  have e2 : ([47, 47] ++ 10 :: 32 :: rest : List UInt8) = 47 :: ([47] ++ 10 :: 32 :: rest) := rfl
  rw [e2, lex_cmt _ _ _ (by rfl), ← e2, skip_body _ (by decide), lex_nl _ _ _ rfl, lex_blank _ _ _ (.inl rfl), show ln + 1 + 1 = ln + 2 by omega]⟩
theorem gap4 : GapOk [32] := ⟨⟨_, _, rfl, .inr rfl⟩, 0, fun rest ln acc => by
  rw [List.cons_append, lex_blank _ _ _ (.inl rfl), List.nil_append, Int.add_zero]⟩
def txt (l : List Tk) (j : Nat) : List UInt8 := ((l[j]?).map (·.text)).getD []
theorem txt_of {l : List Tk} {j : Nat} {t : Tk} (h : l[j]? = some t) : txt l j = t.text := by unfold txt; rw [h]; rfl
/-- The first k texts, each with a gap behind it. -/
def blkN (l : List Tk) (G : Nat → List UInt8) : Nat → List UInt8
  | 0 => []
  | k + 1 => blkN l G k ++ (txt l k ++ G k)
theorem blkN_congr (l : List Tk) {G G' : Nat → List UInt8} : ∀ k, (∀ i, i < k → G i = G' i) → blkN l G k = blkN l G' k
  | 0, _ => rfl
  | k + 1, h => by rw [blkN, blkN, blkN_congr l k (fun i hi => h i (by omega)), h k (by omega)]
theorem same_snoc : ∀ {a b : List Tk} {t u : Tk}, SameT a b → (t.kind = u.kind ∧ t.n = u.n ∧ t.text = u.text) → SameT (a ++ [t]) (b ++ [u])
  | [], [], _, _, _, h => ⟨h, trivial⟩
  | _ :: _, [], _, _, h, _ => by cases h
  | [], _ :: _, _, _, h, _ => by cases h
  | _ :: _, _ :: _, _, _, h, h2 => ⟨h.1, same_snoc h.2 h2⟩
theorem lex_blk {l : List Tk} {G : Nat → List UInt8} (hv : l.all validS = true) : ∀ k, k ≤ l.length → (∀ i, i < k → GapOk (G i)) → ∀ rest ln acc, ∃ (m : Int) (ks : List Tk), lex (blkN l G k ++ rest) ln acc = lex rest (ln + m) (acc ++ ks) ∧ SameT ks (l.take k)
  | 0, _, _, rest, ln, acc => ⟨0, [], by rw [blkN, List.nil_append, Int.add_zero, List.append_nil], trivial⟩
  | k + 1, hk, hG, rest, ln, acc => by
    obtain ⟨m, ks, h1, h2⟩ := lex_blk hv k (by omega) (fun i hi => hG i (by omega)) (txt l k ++ (G k ++ rest)) ln acc
    obtain ⟨⟨c, r, hc, hcc⟩, m2, hg⟩ := hG k (by omega)
    obtain ⟨t, ht⟩ : ∃ t, l[k]? = some t := ⟨_, List.getElem?_eq_getElem (by omega)⟩
    have htv : validS t = true := List.all_eq_true.1 hv t (List.mem_of_getElem? ht)
    obtain ⟨hkl, he⟩ := List.getElem?_eq_some_iff.1 ht
    refine ⟨m + m2, ks ++ [t.at (ln + m)], ?_, ?_⟩
    · rw [blkN, List.append_assoc, List.append_assoc, h1, txt_of ht, hc, List.cons_append, tok_sep htv hcc, ← List.cons_append, ← hc, hg, List.append_assoc, Int.add_assoc]
    · rw [List.take_succ_eq_append_getElem hkl, he]
      exact same_snoc h2 ⟨rfl, rfl, rfl⟩
theorem lex_gaps {l : List Tk} {G : Nat → List UInt8} (hv : l.all validS = true) (hG : ∀ i, i < l.length → GapOk (G i)) : ∃ ks, lex (9 :: blkN l G l.length) 1 [] = (ks, 0, 0) ∧ SameT ks l := by
  obtain ⟨m, ks, h1, h2⟩ := lex_blk hv l.length (Nat.le_refl _) hG [] 1 []
  rw [List.append_nil, List.nil_append, lex_nil] at h1
  rw [List.take_length] at h2
  exact ⟨ks, by rw [lex_blank _ _ _ (.inr rfl), h1], h2⟩
theorem blkN_len (l : List Tk) (G : Nat → List UInt8) (h : ∀ t ∈ l, t.text.length ≤ 40) (hG : ∀ i, (G i).length ≤ 12) : ∀ k, (blkN l G k).length ≤ k * 52
  | 0 => Nat.le_refl _
  | k + 1 => by
    have ih := blkN_len l G h hG k
    have h1 : (txt l k).length ≤ 40 := by
      unfold txt
      rcases e : l[k]? with _ | t
      · simp
      · exact h t (List.mem_of_getElem? e)
    have h2 := hG k
    rw [blkN, List.length_append, List.length_append]; omega
theorem lex_spaces (n : Nat) : ∀ ln acc, lex (List.replicate n 32 ++ [64]) ln acc = (acc ++ [⟨4, 0, [64], ln⟩], 0, 0) := by
  induction n with
  | zero =>
    intro ln acc
    have h := tok_end (t := ⟨4, 0, [64], 0⟩) (by kernel_rfl) ln acc
    exact h
  | succ n ih =>
    intro ln acc
    rw [List.replicate_succ, List.cons_append, lex_blank _ _ _ (.inl rfl), ih]
/-- A source, a line feed, and another source. -/
theorem lex_two (s t : List UInt8) (h : (lex s 1 []).2.2 = 0) :
    lex (s ++ 10 :: t) 1 [] = if (lex t 1 []).2.2 = 0 then ((lex s 1 []).1 ++ (lex t 1 []).1.map (shift ((1 + nl s : Nat) : Int)), 0, 0) else ([], (lex t 1 []).2.1 + ((1 + nl s : Nat) : Int), (lex t 1 []).2.2) := by
  rw [lex_app, if_pos h]
  have e := lex_shift ((1 + nl s : Nat) : Int) (lex s 1 []).1 t 1 []
  rw [List.map_nil, List.append_nil] at e
  rw [← e]
  congr 1
  omega
end Go.Proofs.YtlnomiiphlbamaaGreatDoor.LexM
