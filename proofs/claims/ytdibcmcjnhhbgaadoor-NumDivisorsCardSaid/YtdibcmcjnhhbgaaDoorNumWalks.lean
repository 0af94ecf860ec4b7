/-
  What each function of package num, and each function of its reference, returns: one contract a function.
-/
import Derived.Test.YtdibcmcjnhhbgaaDoorNumMath
import Derived.Test.YtdibcmcjnhhbgaaDoorRows
import Derived.WalkKit
import Derived.Outline
import Derived.WalkSpells
import Derived.Deep.DeepFit
import Derived.Lib.Hide
namespace Go.Proofs.YtdibcmcjnhhbgaaDoor.NumW
open Go Go.RowKit Go.Proofs.YtdibcmcjnhhbgaaDoor.NumM

theorem ret2 {a b c d : Int} (h : (a, b) = (c, d)) : Ending.returned (.tuple #[.int .i64 a, .int .i64 b]) = Ending.returned (.tuple #[.int .i64 c, .int .i64 d]) := by
  cases h; rfl
theorem ret1 {k : IntKind} {a b : Int} (h : a = b) : Ending.returned (.int k a) = .returned (.int k b) := by rw [h]
theorem addCode_any (a b : Int) (w : World) (a0 : -9223372036854775808 ≤ a) (a1 : a ≤ 9223372036854775807) (b0 : -9223372036854775808 ≤ b) (b1 : b ≤ 9223372036854775807) :
    Calls Tryd.prog 10 #[.int .i64 a, .int .i64 b] w fun e w' => e = .returned (.tuple #[.int .i64 (lim (a + b)).1, .int .i64 (lim (a + b)).2]) ∧ w = w' := by
  go_enter Tryd.func10, Tryd.ntmps10
  go_wp2
  · go_ret2
    have h : (!decide (0 ≤ b) == decide (a ≤ wrap64 (a + b))) = true := by assumption
    exact ⟨ret2 (add_code_no a b a0 a1 b0 b1 h), rfl⟩
  · go_ret2
    have h : (!decide (0 ≤ b) == decide (a ≤ wrap64 (a + b))) = false := by assumption
    exact ⟨ret2 (add_code_ok a b a0 a1 b0 b1 h), rfl⟩
theorem subCode_any (a b : Int) (w : World) (a0 : -9223372036854775808 ≤ a) (a1 : a ≤ 9223372036854775807) (b0 : -9223372036854775808 ≤ b) (b1 : b ≤ 9223372036854775807) :
    Calls Tryd.prog 12 #[.int .i64 a, .int .i64 b] w fun e w' => e = .returned (.tuple #[.int .i64 (lim (a - b)).1, .int .i64 (lim (a - b)).2]) ∧ w = w' := by
  go_enter Tryd.func12, Tryd.ntmps12
  go_wp2
  · go_ret2
    have h : (!decide (0 ≤ b) == decide (wrap64 (a - b) ≤ a)) = true := by assumption
    exact ⟨ret2 (sub_code_no a b a0 a1 b0 b1 h), rfl⟩
  · go_ret2
    have h : (!decide (0 ≤ b) == decide (wrap64 (a - b) ≤ a)) = false := by assumption
    exact ⟨ret2 (sub_code_ok a b a0 a1 b0 b1 h), rfl⟩
theorem addRef_any (a b : Int) (w : World) (a0 : -9223372036854775808 ≤ a) (a1 : a ≤ 9223372036854775807) (b0 : -9223372036854775808 ≤ b) (b1 : b ≤ 9223372036854775807) :
    Calls Tryd.prog 11 #[.int .i64 a, .int .i64 b] w fun e w' => e = .returned (.tuple #[.int .i64 (lim (a + b)).1, .int .i64 (lim (a + b)).2]) ∧ w = w' := by
  go_enter Tryd.func11, Tryd.ntmps11
  go_wp2
  all_goals go_ret2
  all_goals first
    | exact ⟨ret2 (add_ok (by rw [okI_iff]; (try unfold wrap64 at *); omega)), rfl⟩
    | exact ⟨ret2 (add_no (by (try unfold wrap64 at *); omega)), rfl⟩
theorem subRef_any (a b : Int) (w : World) (a0 : -9223372036854775808 ≤ a) (a1 : a ≤ 9223372036854775807) (b0 : -9223372036854775808 ≤ b) (b1 : b ≤ 9223372036854775807) :
    Calls Tryd.prog 13 #[.int .i64 a, .int .i64 b] w fun e w' => e = .returned (.tuple #[.int .i64 (lim (a - b)).1, .int .i64 (lim (a - b)).2]) ∧ w = w' := by
  by_cases hb : b = -9223372036854775808
  · subst hb
    go_enter Tryd.func13, Tryd.ntmps13
    go_wp2
    all_goals go_ret2
    all_goals first
      | exact ⟨ret2 (sub_least (by omega) a0), rfl⟩
      | exact ⟨ret2 (sub_no (by omega)), rfl⟩
  · have hs : (b == -9223372036854775808) = false := by simpa using hb
    have hn : a - b = a + -b := by omega
    rw [hn]
    clear hn
    go_enter Tryd.func13, Tryd.ntmps13
    go_wp2_with (go_at_call 11; refine (addRef_any _ _ _ (by omega) (by omega) (by omega) (by omega)).mono ?_; rintro e w' ⟨rfl, rfl⟩)
    go_ret2
    exact ⟨rfl, rfl⟩
theorem mulCode_any (a b : Int) (w : World) (a0 : -9223372036854775808 ≤ a) (a1 : a ≤ 9223372036854775807) (b0 : -9223372036854775808 ≤ b) (b1 : b ≤ 9223372036854775807) :
    Calls Tryd.prog 14 #[.int .i64 a, .int .i64 b] w fun e w' => e = .returned (.tuple #[.int .i64 (lim (a * b)).1, .int .i64 (lim (a * b)).2]) ∧ w = w' := by
  by_cases h0 : a = 0
  · subst h0
    go_enter Tryd.func14, Tryd.ntmps14
    go_wp2
    go_ret2
    exact ⟨ret2 (by rw [Int.zero_mul]; rfl), rfl⟩
  · have h0' : (a == 0) = false := by simpa using h0
    by_cases h1 : a = -1
    · subst h1
      rw [show (-1 : Int) * b = -b by omega]
      go_enter Tryd.func14, Tryd.ntmps14
      go_wp2_with (go_at_call 12; refine (subCode_any _ _ _ (by omega) (by omega) (by omega) (by omega)).mono ?_; rintro e w' ⟨rfl, rfl⟩)
      go_ret2
      exact ⟨rfl, rfl⟩
    · have h1' : (a == -1) = false := by simpa using h1
      have hm := Lib.hid (mul_test a b a0 a1 h0 h1)
      go_enter Tryd.func14, Tryd.ntmps14
      go_wp2
      · go_ret2
        have h : (wrap64 ((wrap64 (a * b)).tdiv a) != b) = true := by assumption
        rw [hm.out] at h
        exact ⟨ret2 (mul_no (by simpa using h)), rfl⟩
      · go_ret2
        have h : (wrap64 ((wrap64 (a * b)).tdiv a) != b) = false := by assumption
        rw [hm.out] at h
        exact ⟨ret2 (mul_ok (by simpa using h)), rfl⟩
theorem mulRef_any (a b : Int) (w : World) (a0 : -9223372036854775808 ≤ a) (a1 : a ≤ 9223372036854775807) (b0 : -9223372036854775808 ≤ b) (b1 : b ≤ 9223372036854775807) :
    Calls Tryd.prog 15 #[.int .i64 a, .int .i64 b] w fun e w' => e = .returned (.tuple #[.int .i64 (lim (a * b)).1, .int .i64 (lim (a * b)).2]) ∧ w = w' := by
  by_cases h0 : a = 0
  · subst h0
    go_enter Tryd.func15, Tryd.ntmps15
    go_wp2
    go_ret2
    exact ⟨ret2 (by rw [Int.zero_mul]; rfl), rfl⟩
  have h0' : (a == 0) = false := by simpa using h0
  by_cases k0 : b = 0
  · subst k0
    go_enter Tryd.func15, Tryd.ntmps15
    go_wp2
    go_ret2
    exact ⟨ret2 (by rw [Int.mul_zero]; rfl), rfl⟩
  have k0' : (b == 0) = false := by simpa using k0
  by_cases h1 : a = -1
  · subst h1
    by_cases k1 : b = -9223372036854775808
    · subst k1
      go_enter Tryd.func15, Tryd.ntmps15
      go_wp2
      go_ret2
      exact ⟨ret2 lim_least, rfl⟩
    have k1' : (b == -9223372036854775808) = false := by simpa using k1
    by_cases k2 : b = -1
    · subst k2
      have t : (wrap64 (-wrap64 1) != -1) = false := by unfold wrap64; rfl
      go_enter Tryd.func15, Tryd.ntmps15
      go_wp2
      go_ret2
      exact ⟨ret2 rfl, rfl⟩
    · have k2' : (b == -1) = false := by simpa using k2
      have t := neg_test b (by omega) b1 k0
      go_enter Tryd.func15, Tryd.ntmps15
      go_wp2
      go_ret2
      exact ⟨ret2 (neg_ok (by omega) b1), rfl⟩
  have h1' : (a == -1) = false := by simpa using h1
  by_cases k1 : b = -1
  · subst k1
    by_cases h2 : a = -9223372036854775808
    · subst h2
      go_enter Tryd.func15, Tryd.ntmps15
      go_wp2
      go_ret2
      exact ⟨ret2 lim_least', rfl⟩
    have h2' : (a == -9223372036854775808) = false := by simpa using h2
    have t := neg_neg_test a (by omega) a1
    go_enter Tryd.func15, Tryd.ntmps15
    go_wp2
    go_ret2
    exact ⟨ret2 (neg_ok' (by omega) a1), rfl⟩
  have k1' : (b == -1) = false := by simpa using k1
  have hm := mul_testR a b b0 b1 k0 k1
  by_cases g : okI (a * b) = true
  · have t : (wrap64 ((wrap64 (a * b)).tdiv b) != a) = false := by rw [hm, g]; rfl
    have G := Lib.hid (mul_ok g)
    clear hm g
    go_enter Tryd.func15, Tryd.ntmps15
    go_wp2
    go_ret2
    exact ⟨ret2 G.out, rfl⟩
  · have t : (wrap64 ((wrap64 (a * b)).tdiv b) != a) = true := by rw [hm]; simpa using g
    have G := Lib.hid (mul_no g)
    clear hm g
    go_enter Tryd.func15, Tryd.ntmps15
    go_wp2
    go_ret2
    exact ⟨ret2 G.out, rfl⟩
theorem divCode_any (a b : Int) (w : World) (a0 : -9223372036854775808 ≤ a) (a1 : a ≤ 9223372036854775807) (b0 : -9223372036854775808 ≤ b) (b1 : b ≤ 9223372036854775807) :
    Calls Tryd.prog 17 #[.int .i64 a, .int .i64 b] w fun e w' => e = .returned (.tuple #[.int .i64 (divS a b).1, .int .i64 (divS a b).2]) ∧ w = w' := by
  by_cases h0 : b = 0
  · subst h0
    go_enter Tryd.func17, Tryd.ntmps17
    go_wp2
    go_ret2
    exact ⟨rfl, rfl⟩
  have h0' : (b == 0) = false := by simpa using h0
  by_cases h1 : b = -1
  · subst h1
    rw [show divS a (-1) = lim (-a) from rfl]
    go_enter Tryd.func17, Tryd.ntmps17
    go_wp2_with (go_at_call 12; refine (subCode_any _ _ _ (by omega) (by omega) (by omega) (by omega)).mono ?_; rintro e w' ⟨rfl, rfl⟩)
    go_ret2
    exact ⟨rfl, rfl⟩
  have h1' : (b == -1) = false := by simpa using h1
  rw [divS, if_neg h0, if_neg h1]
  go_enter Tryd.func17, Tryd.ntmps17
  go_wp2_with fail
  all_goals go_ret2
  · exact ⟨ret2 (quo_even a0 a1 h0 h1 (by assumption)), rfl⟩
  · have h : (a.tmod b != 0) = true ∧ (!decide (a < 0) == decide (b < 0)) = true := by assumption
    exact ⟨ret2 (quo_down a0 a1 h0 h1 (by assumption) h.2), rfl⟩
  · have h : (a.tmod b != 0) = false ∨ (!decide (a < 0) == decide (b < 0)) = false := by assumption
    exact ⟨ret2 (quo_stay a0 a1 h0 h1 h), rfl⟩
theorem divRef_any (a b : Int) (w : World) (a0 : -9223372036854775808 ≤ a) (a1 : a ≤ 9223372036854775807) (b0 : -9223372036854775808 ≤ b) (b1 : b ≤ 9223372036854775807) :
    Calls Tryd.prog 18 #[.int .i64 a, .int .i64 b] w fun e w' => e = .returned (.tuple #[.int .i64 (divS a b).1, .int .i64 (divS a b).2]) ∧ w = w' := by
  by_cases h0 : b = 0
  · subst h0
    go_enter Tryd.func18, Tryd.ntmps18
    go_wp2
    go_ret2
    exact ⟨rfl, rfl⟩
  have h0' : (b == 0) = false := by simpa using h0
  by_cases h1 : b = -1
  · subst h1
    rw [show divS a (-1) = lim (-a) from rfl]
    by_cases hA : a = -9223372036854775808
    · subst hA
      go_enter Tryd.func18, Tryd.ntmps18
      go_wp2
      go_ret2
      exact ⟨rfl, rfl⟩
    · have hA' : (a == -9223372036854775808) = false := by simpa using hA
      go_enter Tryd.func18, Tryd.ntmps18
      go_wp2
      go_ret2
      exact ⟨ret2 (neg_ok'' (by omega) a1), rfl⟩
  have h1' : (b == -1) = false := by simpa using h1
  rw [divS, if_neg h0, if_neg h1]
  cases hA : (a == -9223372036854775808)
  all_goals
    go_enter Tryd.func18, Tryd.ntmps18
    go_wp2_with fail
    all_goals go_ret2
    · exact ⟨ret2 (quo_even a0 a1 h0 h1 (by assumption)), rfl⟩
    · have h : (a.tmod b != 0) = true ∧ (!decide (a.tmod b < 0) == decide (b < 0)) = true := by assumption
      exact ⟨ret2 (quo_downR a0 a1 h0 h1 (by assumption) h.2), rfl⟩
    · have h : (a.tmod b != 0) = false ∨ (!decide (a.tmod b < 0) == decide (b < 0)) = false := by assumption
      exact ⟨ret2 (quo_stayR a0 a1 h0 h1 (by assumption) h), rfl⟩
theorem size_any (a : Int) (w : World) (a0 : -9223372036854775808 ≤ a) (a1 : a ≤ 9223372036854775807) :
    Calls Tryd.prog 29 #[.int .i64 a] w fun e w' => e = .returned (.int .u64 a.natAbs) ∧ w = w' := by
  go_enter Tryd.func29, Tryd.ntmps29
  go_wp2
  all_goals go_ret
  · exact ⟨ret1 (size_neg a0 (by assumption)), rfl⟩
  · exact ⟨ret1 (by omega), rfl⟩
theorem below_any (a : Int) (w : World) (a0 : -9223372036854775808 ≤ a) (a1 : a ≤ 9223372036854775807) :
    Calls Tryd.prog 30 #[.int .i64 a] w fun e w' => e = .returned (.int .i64 (-(a.natAbs : Int))) ∧ w = w' := by
  go_enter Tryd.func30, Tryd.ntmps30
  go_wp2
  all_goals go_ret
  all_goals exact ⟨ret1 (by omega), rfl⟩
end Go.Proofs.YtdibcmcjnhhbgaaDoor.NumW
