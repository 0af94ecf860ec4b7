/-
  What the reference's 'Parse' of a rational number returns, for every text of at most 1000 bytes.
-/
import Derived.Test.YtjighmmfaedgbaaDoorRatParR
import Derived.Test.YtjighmmfaedgbaaDoorRatParse
namespace Go.Proofs.YtjighmmfaedgbaaDoor.RatW
open Go Go.RowKit Go.Proofs.YtjighmmfaedgbaaDoor.RatM Go.Proofs.YtjighmmfaedgbaaDoor.NumM

theorem refP (t : ByteArray) (n e : Int) (hs : t.size ≤ 1000) (h : parseS t.data.toList = (n, e)) (w : World) :
    Calls Tryd.prog 54 #[.string t] w fun E w' => E = .returned (.tuple #[.int .i64 n, .int .i64 e]) ∧ w = w' := by
  have q := RefP.parseRef_any t w hs
  unfold RefP.parsedR at q
  rw [h] at q
  exact q
theorem pre_cons (c : UInt8) (r : List UInt8) : Lib.hasPrefix (c :: r) [45] = ((45 : UInt8) == c) := by
  simp [Lib.hasPrefix, List.isPrefixOf]
set_option maxRecDepth 100000 in
theorem parseRef05 (s : ByteArray) (w : World) (hs : s.size ≤ 1000) :
    Calls Tryd.prog 33 #[.string s] w (tRes w (parS s.data.toList)) := by
  have hl : s.data.toList.length = s.size := by simp
  obtain ⟨K, hK⟩ : ∃ K, slashL s.data.toList = K := ⟨_, rfl⟩
  have hle : K ≤ s.size := by have := slash_le s.data.toList; omega
  have CS : ∀ w, Calls Tryd.prog 53 #[.string s] w fun E w' => E = .returned (.int .i64 (K : Nat)) ∧ w = w' := fun w => by
    have q := slashRef s w hs
    rw [hK] at q
    exact q
  obtain ⟨n, e, hne⟩ : ∃ n e, parseS (topL s.data.toList) = (n, e) := ⟨_, _, rfl⟩
  have hn : i64 n := by have := parse_i64 (topL s.data.toList); rw [hne] at this; exact this
  have ht : (s.extract 0 K).data.toList = topL s.data.toList := by rw [ext_list]; unfold topL; rw [hK]; simp
  have CT := fun w => refP (s.extract 0 K) n e (by simp; omega) (by rw [ht]; exact hne) w
  obtain ⟨d, g, hdg⟩ : ∃ d g, parseS (botL s.data.toList) = (d, g) := ⟨_, _, rfl⟩
  obtain ⟨p, hp⟩ : ∃ p, Lib.hasPrefix (botL s.data.toList) [45] = p := ⟨_, rfl⟩
  have hd : i64 d := by have := parse_i64 (botL s.data.toList); rw [hdg] at this; exact this
  unfold parS
  rw [hne, hdg, hp]
  by_cases hlt : K < s.size
  · have hb : (s.extract (K + 1) s.size).data.toList = botL s.data.toList := by
      rw [ext_list]; unfold botL; rw [hK, if_pos (by omega), List.take_of_length_le (by rw [List.length_drop]; omega)]
    have CB := fun w => refP (s.extract (K + 1) s.size) d g (by simp; omega) (by rw [hb]; exact hdg) w
    by_cases hlt1 : K + 1 < s.size
    · have hbl : botL s.data.toList = s[K + 1] :: s.data.toList.drop (K + 2) := by
        unfold botL; rw [hK, if_pos (by omega), List.drop_eq_getElem_cons (by omega)]; rfl
      have hc : ((s[K + 1].toNat : Int) == 45) = p := by
        rw [← hp, hbl, pre_cons]
        rw [Bool.eq_iff_iff, beq_iff_eq, beq_iff_eq]
        constructor
        · intro h; rw [← UInt8.toNat_inj]; show 45 = _; omega
        · intro h; rw [← h]; rfl
      clear hne hdg hp ht hb hbl hl hK hlt hle
      cases p
      · by_cases he : e = 5
        · subst he; rw [if_pos (.inl rfl)]; apply parr_b1 (g := g) <;> with_reducible assumption
        · by_cases hg : g = 5
          · subst hg; rw [if_pos (.inr (.inl rfl))]; apply parr_b2 (e := e) <;> with_reducible assumption
          · rw [if_neg (by simp [he, hg])]
            by_cases hz : e = 0
            · subst hz
              by_cases hy : g = 0
              · subst hy
                rw [if_neg (by simp)]
                by_cases hf : fmtS n d = s.data.toList
                · rw [if_pos hf]; apply parr_b5 (n := n) (d := d) <;> with_reducible assumption
                · rw [if_neg hf]; apply parr_b6 (n := n) (d := d) <;> with_reducible assumption
              · rw [if_pos (.inr hy)]; apply parr_b4 (g := g) <;> with_reducible assumption
            · rw [if_pos (.inl hz)]; apply parr_b3 (e := e) (g := g) <;> with_reducible assumption
      · rw [if_pos (.inr (.inr rfl))]
        by_cases he : e = 5
        · subst he; apply parr_a1 (g := g) <;> with_reducible assumption
        · apply parr_a2 (e := e) (g := g) <;> with_reducible assumption
    · have hbl : botL s.data.toList = [] := by
        unfold botL; rw [hK, if_pos (by omega), List.drop_eq_nil_iff.2 (by omega)]
      rw [hbl] at hdg
      have h5 : g = 5 := by
        have : parseS [] = (0, 5) := by decide
        rw [this] at hdg; exact (Prod.mk.inj hdg).2.symm
      have hlt2 : K + 1 = s.size := by omega
      clear hne hdg hp ht hb hbl hl hK hlt hle hlt1
      subst h5
      rw [if_pos (.inr (.inl rfl))]
      by_cases he : e = 5
      · subst he; apply parr_c1 <;> with_reducible assumption
      · apply parr_c2 (e := e) <;> with_reducible assumption
  · have hbl : botL s.data.toList = [49] := by unfold botL; rw [hK, if_neg (by omega)]
    rw [hbl] at hdg hp
    have h1 : parseS [49] = (1, 0) := by decide
    rw [h1] at hdg
    obtain ⟨h2, h3⟩ := Prod.mk.inj hdg
    have h4 : p = false := by rw [← hp]; rfl
    have hlt2 : K = s.size := by omega
    clear hne hdg hp ht hbl hl hK hlt hle h1
    subst h2 h3 h4
    by_cases he : e = 5
    · subst he; rw [if_pos (.inl rfl)]; apply parr_d1 <;> with_reducible assumption
    · rw [if_neg (by simp [he])]
      by_cases hz : e = 0
      · subst hz
        rw [if_neg (by simp)]
        by_cases hf : fmtS n 1 = s.data.toList
        · rw [if_pos hf]; apply parr_d5 (n := n) <;> with_reducible assumption
        · rw [if_neg hf]; apply parr_d6 (n := n) <;> with_reducible assumption
      · rw [if_pos (.inl hz)]; apply parr_d3 (e := e) <;> with_reducible assumption
end Go.Proofs.YtjighmmfaedgbaaDoor.RatW
