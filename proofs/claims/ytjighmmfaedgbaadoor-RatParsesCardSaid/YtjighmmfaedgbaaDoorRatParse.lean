/-
  What package rat's 'Parse' returns, for every text.
-/
import Derived.Test.YtjighmmfaedgbaaDoorRatPar
namespace Go.Proofs.YtjighmmfaedgbaaDoor.RatW
open Go Go.RowKit Go.Proofs.YtjighmmfaedgbaaDoor.RatM Go.Proofs.YtjighmmfaedgbaaDoor.NumM

theorem size_of_list {s : ByteArray} {l : List UInt8} (h : s.data.toList = l) : s.size = l.length := by
  subst h; simp
theorem topL_le (l : List UInt8) : (topL l).length ≤ l.length := by unfold topL; rw [List.length_take]; omega
theorem botL_le (l : List UInt8) : (botL l).length ≤ l.length + 1 := by
  unfold botL
  split
  · rw [List.length_drop]; omega
  · simp
set_option maxRecDepth 100000 in
theorem parseCode (s : ByteArray) (w : World) (hs : s.size < 140737488351232) (ht : Tab2 w) :
    Calls Tryd.prog 32 #[.string s] w (tRes w (parS s.data.toList)) := by
  obtain ⟨t, b, f, ⟨ht1, hb1⟩, CC⟩ := cutCode s (by omega)
  obtain ⟨n, e, hne⟩ : ∃ n e, parseS (topL s.data.toList) = (n, e) := ⟨_, _, rfl⟩
  obtain ⟨d, g, hdg⟩ : ∃ d g, parseS (botL s.data.toList) = (d, g) := ⟨_, _, rfl⟩
  obtain ⟨p, hp⟩ : ∃ p, Lib.hasPrefix (botL s.data.toList) [45] = p := ⟨_, rfl⟩
  have hn : i64 n := by have := parse_i64 (topL s.data.toList); rw [hne] at this; exact this
  have hd : i64 d := by have := parse_i64 (botL s.data.toList); rw [hdg] at this; exact this
  have hl : s.data.toList.length = s.size := by simp
  have CT := fun w h => numParse t n e (by rw [size_of_list ht1]; have := topL_le s.data.toList; omega) (by rw [ht1]; exact hne) w h
  unfold parS
  rw [hne, hdg, hp]
  rcases hb1 with ⟨rfl, hb⟩ | ⟨rfl, hb⟩
  · have CB := fun w h => numParse b d g (by rw [size_of_list hb]; have := botL_le s.data.toList; omega) (by rw [hb]; exact hdg) w h
    have CP : ∀ w, Calls Tryd.prog 52 #[.string b, .string ⟨#[45]⟩] w fun E w' => E = .returned (.bool p) ∧ w' = w := fun w => by
      have q := Tryd.strings_HasPrefix b ⟨#[45]⟩ w
      rw [hb, show (⟨#[45]⟩ : ByteArray).data.toList = [45] from rfl, hp] at q
      exact q
    clear hne hdg hp ht1 hb hl hs
    by_cases he : e = 5
    · subst he; rw [if_pos (.inl rfl)]; apply parse_1y <;> with_reducible assumption
    · by_cases hg : g = 5
      · subst hg; rw [if_pos (.inr (.inl rfl))]; apply parse_2y <;> with_reducible assumption
      · cases p
        · rw [if_neg (by simp [he, hg])]
          by_cases hz : e = 0
          · subst hz
            by_cases hy : g = 0
            · subst hy
              rw [if_neg (by simp)]
              by_cases hf : fmtS n d = s.data.toList
              · rw [if_pos hf]; apply parse_6y (n := n) (d := d) <;> with_reducible assumption
              · rw [if_neg hf]; apply parse_7y (n := n) (d := d) <;> with_reducible assumption
            · rw [if_pos (.inr hy)]; apply parse_5y <;> with_reducible assumption
          · rw [if_pos (.inl hz)]; apply parse_4y <;> with_reducible assumption
        · rw [if_pos (.inr (.inr rfl))]; apply parse_3y <;> with_reducible assumption
  · have CB := fun w h => numParse ⟨#[49]⟩ d g (by show (1 : Nat) ≤ _; omega) (by rw [show (⟨#[49]⟩ : ByteArray).data.toList = [49] from rfl, ← hb]; exact hdg) w h
    have CP : ∀ w, Calls Tryd.prog 52 #[.string ⟨#[49]⟩, .string ⟨#[45]⟩] w fun E w' => E = .returned (.bool p) ∧ w' = w := fun w => by
      have q := Tryd.strings_HasPrefix ⟨#[49]⟩ ⟨#[45]⟩ w
      rw [show (⟨#[49]⟩ : ByteArray).data.toList = botL s.data.toList from hb.symm, show (⟨#[45]⟩ : ByteArray).data.toList = [45] from rfl, hp] at q
      exact q
    clear hne hdg hp ht1 hb hl hs
    by_cases he : e = 5
    · subst he; rw [if_pos (.inl rfl)]; apply parse_1n <;> with_reducible assumption
    · by_cases hg : g = 5
      · subst hg; rw [if_pos (.inr (.inl rfl))]; apply parse_2n <;> with_reducible assumption
      · cases p
        · rw [if_neg (by simp [he, hg])]
          by_cases hz : e = 0
          · subst hz
            by_cases hy : g = 0
            · subst hy
              rw [if_neg (by simp)]
              by_cases hf : fmtS n d = s.data.toList
              · rw [if_pos hf]; apply parse_6n (n := n) (d := d) <;> with_reducible assumption
              · rw [if_neg hf]; apply parse_7n (n := n) (d := d) <;> with_reducible assumption
            · rw [if_pos (.inr hy)]; apply parse_5n <;> with_reducible assumption
          · rw [if_pos (.inl hz)]; apply parse_4n <;> with_reducible assumption
        · rw [if_pos (.inr (.inr rfl))]; apply parse_3n <;> with_reducible assumption
end Go.Proofs.YtjighmmfaedgbaaDoor.RatW
