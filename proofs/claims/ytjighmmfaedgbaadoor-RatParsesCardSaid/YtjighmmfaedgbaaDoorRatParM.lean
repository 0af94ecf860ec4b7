/-
  What a text denotes, as a list of bytes. No program in sight.
-/
import Derived.Test.YtjighmmfaedgbaaDoorPackMath
import Derived.Test.YtjighmmfaedgbaaDoorRatLawM
import Derived.Lib.IndexLaws
namespace Go.Proofs.YtjighmmfaedgbaaDoor.RatM
open Go Go.Proofs.YtjighmmfaedgbaaDoor.NumM

/-- The first slash, or the length. -/
def slashL (l : List UInt8) : Nat := (l.takeWhile fun c => c != 47).length
theorem slash_le (l : List UInt8) : slashL l ≤ l.length := by
  unfold slashL
  induction l with
  | nil => simp
  | cons a r ih =>
    rw [List.takeWhile_cons]
    split
    · simp only [List.length_cons]; omega
    · simp
theorem slash_of : ∀ {l : List UInt8} {k : Nat}, (∀ j, j < k → l[j]? ≠ some 47) → (k = l.length ∨ l[k]? = some 47) → slashL l = k := by
  intro l
  induction l with
  | nil =>
    intro k _ h
    rcases h with rfl | h
    · rfl
    · simp at h
  | cons a r ih =>
    intro k hlt h
    unfold slashL
    rw [List.takeWhile_cons]
    by_cases e : a = 47
    · subst e
      rw [if_neg (by decide)]
      rcases Nat.eq_zero_or_pos k with rfl | hk
      · rfl
      · exact absurd rfl (hlt 0 hk)
    · rw [if_pos (by simpa using e), List.length_cons]
      rcases Nat.eq_zero_or_pos k with rfl | hk
      · exfalso
        rcases h with h | h
        · simp at h
        · simp at h; exact e h
      · obtain ⟨j, rfl⟩ : ∃ j, k = j + 1 := ⟨k - 1, by omega⟩
        have := ih (k := j) (fun i hi => by have := hlt (i + 1) (by omega); simpa using this) (by
          rcases h with h | h
          · left; simpa using h
          · right; simpa using h)
        unfold slashL at this
        rw [this]
theorem slash_none {l : List UInt8} (h : Lib.indexByte l 47 = -1) : slashL l = l.length :=
  slash_of (fun j _ => Lib.indexByte_none h j) (.inl rfl)
theorem slash_some {l : List UInt8} {k : Nat} (h : Lib.indexByte l 47 = (k : Int)) : slashL l = k ∧ k < l.length := by
  obtain ⟨h1, h2⟩ := Lib.indexByte_some h
  refine ⟨slash_of h2 (.inr h1), ?_⟩
  apply Nat.lt_of_not_le
  intro g
  rw [List.getElem?_eq_none g] at h1
  cases h1
def topL (l : List UInt8) : List UInt8 := l.take (slashL l)
def botL (l : List UInt8) : List UInt8 := if slashL l < l.length then l.drop (slashL l + 1) else [49]
end Go.Proofs.YtjighmmfaedgbaaDoor.RatM
