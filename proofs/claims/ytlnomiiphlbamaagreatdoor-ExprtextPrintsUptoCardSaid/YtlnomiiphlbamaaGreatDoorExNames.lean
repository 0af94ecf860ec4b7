/-
  What Names and Arrays return.
-/
import Derived.Test.YtlnomiiphlbamaaGreatDoorExValid
import Derived.Maps.OwnIn
import Derived.Maps.AppendAt
import Derived.Maps.Views
namespace Go.Proofs.YtlnomiiphlbamaaGreatDoor.ExW
open Go Go.RowKit Go.Shelf Go.Proofs.YtlnomiiphlbamaaGreatDoor.NumM Go.Proofs.YtlnomiiphlbamaaGreatDoor.LexW Go.Proofs.YtlnomiiphlbamaaGreatDoor.LexM Go.Proofs.YtlnomiiphlbamaaGreatDoor.ExM

attribute [local go_sem] Oper.semAt_some

/-- A set of names as a datum. -/
def nmD (l : List ByteArray) : DataW Unit := l.foldl (fun D s => D.put (.string s.data.toList) (.lit (.bool true))) (.map [])
theorem nmD_snoc (l : List ByteArray) (s : ByteArray) : nmD (l ++ [s]) = (nmD l).put (.string s.data.toList) (.lit (.bool true)) := by
  unfold nmD; rw [List.foldl_append]; rfl
theorem put_map {D : DataW Unit} (h : Maps.IsMap D) (k : Lit) (d : DataW Unit) : Maps.IsMap (D.put k d) := by
  cases D <;> simp_all [Maps.IsMap, DataW.put]
theorem nmD_map (l : List ByteArray) : Maps.IsMap (nmD l) := by
  have : ∀ (l : List ByteArray) (D : DataW Unit), Maps.IsMap D → Maps.IsMap (l.foldl (fun D s => D.put (.string s.data.toList) (.lit (.bool true))) D) := by
    intro l
    induction l with
    | nil => intro D h; exact h
    | cons a r ih => intro D h; exact ih _ (put_map h _ _)
  exact this l _ (by simp [Maps.IsMap])
open Classical in
theorem nmD_at (t : ByteArray) (l : List ByteArray) : (nmD l).atKey (.string t.data.toList) (.lit (.bool false)) = .lit (.bool (decide (t ∈ l))) := by
  have : ∀ n (l : List ByteArray), l.length = n → (nmD l).atKey (.string t.data.toList) (.lit (.bool false)) = .lit (.bool (decide (t ∈ l))) := by
    intro n
    induction n with
    | zero =>
      intro l hl
      obtain rfl := List.length_eq_zero_iff.1 hl
      simp [nmD, DataW.atKey]
    | succ n ih =>
      intro l hl
      obtain ⟨r, a, rfl⟩ : ∃ r a, l = r ++ [a] := by
        cases hx : l.reverse with
        | nil => rw [List.reverse_eq_nil_iff] at hx; rw [hx] at hl; simp at hl
        | cons a r => exact ⟨r.reverse, a, by rw [← List.reverse_reverse l, hx]; simp⟩
      have hr : r.length = n := by simp at hl; omega
      rw [nmD_snoc]
      by_cases e : t = a
      · subst e
        rw [Maps.atKey_put_same (nmD_map r) (by simp [WideAt.IsKeyLit])]
        simp
      · rw [Maps.atKey_put_other (by
          intro x
          simp only [Lit.string.injEq] at x
          exact e (by rw [← bs_data t, ← bs_data a, x])), ih r hr]
        simp [e]
  exact this _ l rfl
theorem plainBool {P : Program} {e : TypeId} (he : P.underlying e = some .bool) {v : Value} {z : DataW Unit × List MemPlace} {c : Bool} (h : plainElem (H := Unit) P e v = some z) (hz : z.1 = .lit (.bool c)) : v = .bool c := by
  unfold plainElem at h
  rw [he] at h
  cases v <;> simp at h
  subst h
  simpa using hz
theorem infoS : (Tryz.prog.info? 9).map (fun i => (i.zero, i.size, i.bytes)) = some (some (.string ⟨#[]⟩), 1, 16) := by kernel_rfl
theorem boxed_kept {W W' : World} {B : Nat} {t : TypeId} {v : Value} {row : Option Nat} (h : Boxed W B t v) (hg : W.grownBy W' row) (hr : ∀ r, row = some r → ∃ o : Obj, W.heap[r]? = some o ∧ o.isCells = false) : Boxed W' B t v :=
  h.kept hg (fun e' => by obtain ⟨o, ho, hc⟩ := hr B e'.symm; rw [show W.heap[B]? = _ from h] at ho; cases ho; cases hc)
end Go.Proofs.YtlnomiiphlbamaaGreatDoor.ExW
