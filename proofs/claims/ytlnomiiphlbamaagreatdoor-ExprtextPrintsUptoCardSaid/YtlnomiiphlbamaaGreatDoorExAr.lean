/-
  How many operands an operator has: the code's Arity and the reference's.
-/
import Derived.Test.YtlnomiiphlbamaaGreatDoorExMem
namespace Go.Proofs.YtlnomiiphlbamaaGreatDoor.ExW
open Go Go.RowKit Go.Proofs.YtlnomiiphlbamaaGreatDoor.LexW Go.Proofs.YtlnomiiphlbamaaGreatDoor.LexM Go.Proofs.YtlnomiiphlbamaaGreatDoor.ExM

theorem cases25 {o : Int} (h : 1 ≤ o ∧ o ≤ 25) : o = 1 ∨ o = 2 ∨ o = 3 ∨ o = 4 ∨ o = 5 ∨ o = 6 ∨ o = 7 ∨ o = 8 ∨ o = 9 ∨ o = 10 ∨ o = 11 ∨ o = 12 ∨ o = 13 ∨ o = 14 ∨ o = 15 ∨ o = 16 ∨ o = 17 ∨ o = 18 ∨ o = 19 ∨ o = 20 ∨ o = 21 ∨ o = 22 ∨ o = 23 ∨ o = 24 ∨ o = 25 := by omega
theorem ar_out {o : Int} (h : ¬ (1 ≤ o ∧ o ≤ 25)) : arS o = -1 := by
  unfold arS
  rw [if_neg (by omega), if_neg (by omega), if_neg (by omega), if_neg (by omega), if_neg (by omega)]
set_option maxHeartbeats 4000000 in
theorem arity_any (o : Int) (w : World) : Calls Tryz.prog 99 #[.int .i64 o] w fun e w' => e = .returned (.int .i64 (arS o)) ∧ w = w' := by
  by_cases h : 1 ≤ o ∧ o ≤ 25
  · rcases cases25 h with rfl | rfl | rfl | rfl | rfl | rfl | rfl | rfl | rfl | rfl | rfl | rfl | rfl | rfl | rfl | rfl | rfl | rfl | rfl | rfl | rfl | rfl | rfl | rfl | rfl
    all_goals
      go_enter Tryz.func99, Tryz.ntmps99
      go_wp2
      go_ret
      exact ⟨rfl, rfl⟩
  · rw [ar_out h]
    have f1 : (o == 1) = false := by rw [beq_eq_false_iff_ne]; omega
    have f2 : (o == 2) = false := by rw [beq_eq_false_iff_ne]; omega
    have f3 : (o == 3) = false := by rw [beq_eq_false_iff_ne]; omega
    have f4 : (o == 4) = false := by rw [beq_eq_false_iff_ne]; omega
    have f5 : (o == 5) = false := by rw [beq_eq_false_iff_ne]; omega
    have f6 : (o == 6) = false := by rw [beq_eq_false_iff_ne]; omega
    have f7 : (o == 7) = false := by rw [beq_eq_false_iff_ne]; omega
    have f8 : (o == 8) = false := by rw [beq_eq_false_iff_ne]; omega
    have f9 : (o == 9) = false := by rw [beq_eq_false_iff_ne]; omega
    have f10 : (o == 10) = false := by rw [beq_eq_false_iff_ne]; omega
    have f11 : (o == 11) = false := by rw [beq_eq_false_iff_ne]; omega
    have f12 : (o == 12) = false := by rw [beq_eq_false_iff_ne]; omega
    have f13 : (o == 13) = false := by rw [beq_eq_false_iff_ne]; omega
    have f14 : (o == 14) = false := by rw [beq_eq_false_iff_ne]; omega
    have f15 : (o == 15) = false := by rw [beq_eq_false_iff_ne]; omega
    have f16 : (o == 16) = false := by rw [beq_eq_false_iff_ne]; omega
    have f17 : (o == 17) = false := by rw [beq_eq_false_iff_ne]; omega
    have f18 : (o == 18) = false := by rw [beq_eq_false_iff_ne]; omega
    have f19 : (o == 19) = false := by rw [beq_eq_false_iff_ne]; omega
    have f20 : (o == 20) = false := by rw [beq_eq_false_iff_ne]; omega
    have f21 : (o == 21) = false := by rw [beq_eq_false_iff_ne]; omega
    have f22 : (o == 22) = false := by rw [beq_eq_false_iff_ne]; omega
    have f23 : (o == 23) = false := by rw [beq_eq_false_iff_ne]; omega
    have f24 : (o == 24) = false := by rw [beq_eq_false_iff_ne]; omega
    have f25 : (o == 25) = false := by rw [beq_eq_false_iff_ne]; omega
    have h1 : decide (o < 1) = true ∨ (decide (o < 1) = false ∧ decide (25 < o) = true) := by
      by_cases g : o < 1
      · exact .inl (by simpa using g)
      · exact .inr ⟨by simpa using g, by simp; omega⟩
    clear h
    rcases h1 with h1 | ⟨h1, h2⟩
    all_goals
      go_enter Tryz.func99, Tryz.ntmps99
      go_wp2
      go_ret
      exact ⟨rfl, rfl⟩
set_option maxHeartbeats 4000000 in
theorem arityR_any (o : Int) (w : World) : Calls Tryz.prog 108 #[.int .i64 o] w fun e w' => e = .returned (.int .i64 (arS o)) ∧ w = w' := by
  by_cases h : 1 ≤ o ∧ o ≤ 25
  · rcases cases25 h with rfl | rfl | rfl | rfl | rfl | rfl | rfl | rfl | rfl | rfl | rfl | rfl | rfl | rfl | rfl | rfl | rfl | rfl | rfl | rfl | rfl | rfl | rfl | rfl | rfl
    all_goals
      go_enter Tryz.func108, Tryz.ntmps108
      go_wp2
      go_ret
      exact ⟨rfl, rfl⟩
  · rw [ar_out h]
    have f1 : (o == 1) = false := by rw [beq_eq_false_iff_ne]; omega
    have f2 : (o == 2) = false := by rw [beq_eq_false_iff_ne]; omega
    have f3 : (o == 3) = false := by rw [beq_eq_false_iff_ne]; omega
    have f4 : (o == 4) = false := by rw [beq_eq_false_iff_ne]; omega
    have f5 : (o == 5) = false := by rw [beq_eq_false_iff_ne]; omega
    have f6 : (o == 6) = false := by rw [beq_eq_false_iff_ne]; omega
    have f7 : (o == 7) = false := by rw [beq_eq_false_iff_ne]; omega
    have f8 : (o == 8) = false := by rw [beq_eq_false_iff_ne]; omega
    have f9 : (o == 9) = false := by rw [beq_eq_false_iff_ne]; omega
    have f10 : (o == 10) = false := by rw [beq_eq_false_iff_ne]; omega
    have f11 : (o == 11) = false := by rw [beq_eq_false_iff_ne]; omega
    have f12 : (o == 12) = false := by rw [beq_eq_false_iff_ne]; omega
    have f13 : (o == 13) = false := by rw [beq_eq_false_iff_ne]; omega
    have f14 : (o == 14) = false := by rw [beq_eq_false_iff_ne]; omega
    have f15 : (o == 15) = false := by rw [beq_eq_false_iff_ne]; omega
    have f16 : (o == 16) = false := by rw [beq_eq_false_iff_ne]; omega
    have f17 : (o == 17) = false := by rw [beq_eq_false_iff_ne]; omega
    have f18 : (o == 18) = false := by rw [beq_eq_false_iff_ne]; omega
    have f19 : (o == 19) = false := by rw [beq_eq_false_iff_ne]; omega
    have f20 : (o == 20) = false := by rw [beq_eq_false_iff_ne]; omega
    have f21 : (o == 21) = false := by rw [beq_eq_false_iff_ne]; omega
    have f22 : (o == 22) = false := by rw [beq_eq_false_iff_ne]; omega
    have f23 : (o == 23) = false := by rw [beq_eq_false_iff_ne]; omega
    have f24 : (o == 24) = false := by rw [beq_eq_false_iff_ne]; omega
    have f25 : (o == 25) = false := by rw [beq_eq_false_iff_ne]; omega
    have h1 : decide (o < 1) = true ∨ (decide (o < 1) = false ∧ decide (25 < o) = true) := by
      by_cases g : o < 1
      · exact .inl (by simpa using g)
      · exact .inr ⟨by simpa using g, by simp; omega⟩
    clear h
    rcases h1 with h1 | ⟨h1, h2⟩
    all_goals
      go_enter Tryz.func108, Tryz.ntmps108
      go_wp2
      go_ret
      exact ⟨rfl, rfl⟩
end Go.Proofs.YtlnomiiphlbamaaGreatDoor.ExW
