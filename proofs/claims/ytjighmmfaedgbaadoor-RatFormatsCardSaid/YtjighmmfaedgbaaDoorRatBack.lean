/-
  The text of a valid number denotes it.
-/
import Derived.Test.YtjighmmfaedgbaaDoorRatParse
namespace Go.Proofs.YtjighmmfaedgbaaDoor.RatW
open Go Go.RowKit Go.Proofs.YtjighmmfaedgbaaDoor.RatM Go.Proofs.YtjighmmfaedgbaaDoor.NumM

theorem dec_no47 (u : Nat) : ∀ c ∈ Lib.decDigits u, ¬ c = 47 := by
  intro c hc e
  have := List.all_eq_true.1 (dec_spec u).1 c hc
  rw [e] at this
  exact absurd this (by decide)
theorem itoa_no47 (a : Int) : ∀ c ∈ Lib.itoa a, ¬ c = 47 := by
  intro c hc
  unfold Lib.itoa at hc
  split at hc
  · rcases List.mem_cons.1 hc with e | e
    · rw [e]; decide
    · exact dec_no47 _ c e
  · exact dec_no47 _ c hc
theorem slash_all {l : List UInt8} (h : ∀ c ∈ l, ¬ c = 47) : slashL l = l.length :=
  slash_of (fun j hj => by
    rw [List.getElem?_eq_getElem hj]
    intro e
    exact h _ (List.getElem_mem hj) (Option.some.inj e)) (.inl rfl)
theorem slash_mid {l r : List UInt8} (h : ∀ c ∈ l, ¬ c = 47) : slashL (l ++ 47 :: r) = l.length :=
  slash_of (fun j hj => by
    rw [List.getElem?_append_left hj, List.getElem?_eq_getElem hj]
    intro e
    exact h _ (List.getElem_mem hj) (Option.some.inj e)) (.inr (by simp))
theorem pre_dec (u : Nat) : Lib.hasPrefix (Lib.decDigits u) [45] = false := by
  have h := (dec_spec u).2.2.2.2
  cases e : Lib.decDigits u with
  | nil => rfl
  | cons c r =>
    rw [e] at h
    have : ¬ c = 45 := by simpa using h
    show ((45 : UInt8) == c && _) = false
    rw [show ((45 : UInt8) == c) = false by simpa using fun g : (45 : UInt8) = c => this g.symm]
    rfl
theorem itoa_one : Lib.itoa 1 = [49] := by
  rw [Lib.itoa, if_neg (by decide), show (1 : Int).toNat = 1 from rfl, dec_small (by decide)]; rfl
theorem par_fmt {a b : Int} (hv : validS a b = true) (ha : i64 a) (hb : i64 b) : parS (fmtS a b) = (a, b, 0) := by
  have h1 := valid_den hv
  by_cases h : b = 1
  · subst h
    have f : fmtS a 1 = Lib.itoa a := fmt_int hv
    have s := slash_all (itoa_no47 a)
    have t : topL (Lib.itoa a) = Lib.itoa a := by unfold topL; rw [s, List.take_length]
    have u : botL (Lib.itoa a) = [49] := by unfold botL; rw [s, if_neg (by omega)]
    have p1 : parseS (Lib.itoa a) = (a, 0) := PackM.parse_itoa ha.1 ha.2
    have p2 : parseS [49] = (1, 0) := by rw [← itoa_one]; exact PackM.parse_itoa (by decide) (by decide)
    unfold parS
    rw [f, t, u, p1, p2, if_neg (by simp [Lib.hasPrefix]), if_neg (by simp), f, if_pos rfl]
  · have f : fmtS a b = Lib.itoa a ++ 47 :: Lib.itoa b := fmt_quo hv h
    have s := slash_mid (r := Lib.itoa b) (itoa_no47 a)
    have t : topL (Lib.itoa a ++ 47 :: Lib.itoa b) = Lib.itoa a := by unfold topL; rw [s]; simp
    have u : botL (Lib.itoa a ++ 47 :: Lib.itoa b) = Lib.itoa b := by
      unfold botL
      rw [s, if_pos (by simp)]
      simp [List.drop_append]
    have p1 : parseS (Lib.itoa a) = (a, 0) := PackM.parse_itoa ha.1 ha.2
    have p2 : parseS (Lib.itoa b) = (b, 0) := PackM.parse_itoa hb.1 hb.2
    have p3 : Lib.hasPrefix (Lib.itoa b) [45] = false := by
      rw [show Lib.itoa b = Lib.decDigits b.toNat by rw [Lib.itoa, if_neg (by omega)]]
      exact pre_dec _
    unfold parS
    rw [f, t, u, p1, p2, p3, if_neg (by simp), if_neg (by simp), f, if_pos rfl]
theorem fmt_size {a b : Int} (ha : i64 a) (hb : i64 b) : (bs (fmtS a b)).size ≤ 43 := by
  have g1 := Lib.itoa_length_le a ha.1 ha.2
  have g2 := Lib.itoa_length_le b hb.1 hb.2
  show (fmtS a b).toArray.size ≤ 43
  rw [List.size_toArray]
  unfold fmtS
  split
  · split
    · omega
    · rw [List.length_append, List.length_cons]; omega
  · simp
end Go.Proofs.YtjighmmfaedgbaaDoor.RatW
