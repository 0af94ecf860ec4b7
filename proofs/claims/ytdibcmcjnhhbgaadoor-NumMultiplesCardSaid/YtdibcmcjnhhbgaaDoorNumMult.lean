/-
  The law on common divisors and multiples, walked: whatever the three numbers, the call returns true, in a world in which nothing that was there has turned.
-/
import Derived.Test.YtdibcmcjnhhbgaaDoorNumLaws
namespace Go.Proofs.YtdibcmcjnhhbgaaDoor.NumW
open Go Go.RowKit Go.Proofs.YtdibcmcjnhhbgaaDoor.NumM
set_option maxHeartbeats 400000 in
theorem multiples_00 (a b : Int) (w : World) (a0 : -9223372036854775808 ≤ a) (a1 : a ≤ 9223372036854775807) (b0 : -9223372036854775808 ≤ b) (b1 : b ≤ 9223372036854775807) (h : Tab w) (G : Nat) (hG : gcdS a b = (G : Int)) (hG1 : 1 ≤ (G : Int)) (_hG2 : (G : Int) ≤ 9223372036854775807)
    (ta : a.tmod (G : Int) = 0) (tb : b.tmod (G : Int) = 0)  (_n1 : ((lcmS a b).2 == 0) = false) (_f1 : ¬ (lcmS a b).2 = 0) :
    Calls Tryd.prog 8 #[.int .i64 a, .int .i64 b, .int .i64 0] w fun e w' => e = .returned (.bool true) ∧ Below w.heap.size w w' := by
  have T := Lib.hid h
  clear h
  have i0 := (lcmS_in a b).1
  have i1 := (lcmS_in a b).2
  have g0 : ((G : Int) == 0) = false := by simp; omega
  have g00 : ¬ (G : Int) = 0 := by omega
  go_enter Tryd.func8, Tryd.ntmps8
  go_wp2_with (first | (go_at_call 23; refine (gcdCode_any _ _ _ (by omega) (by omega) (by omega) (by omega)).mono ?_; rintro e w' ⟨rfl, nd, rfl⟩) | (go_at_call 21; refine (lcmCode_any _ _ _ (by omega) (by omega) (by omega) (by omega)).mono ?_; rintro e w' ⟨rfl, nd, rfl⟩) | (go_at_call 14; refine (mulCode_any _ _ _ (by omega) (by omega) (by omega) (by omega)).mono ?_; rintro e w' ⟨rfl, rfl⟩) | (go_at_call 16; fail))
  refine (awake_any _ ?_).mono ?_
  · first | exact T.out | exact T.out.later (below_drewN _ _) | exact (T.out.later (below_drewN _ _)).later (below_drewN _ _) | exact ((T.out.later (below_drewN _ _)).later (below_drewN _ _)).later (below_drewN _ _)
  rintro e W1 ⟨rfl, hb1⟩
  have HB1 := Lib.hid hb1
  clear hb1
  go_wp2_with fail
  go_ret
  exact ⟨rfl, later_drewn HB1.out⟩
set_option maxHeartbeats 400000 in
theorem multiples_01 (a b : Int) (w : World) (a0 : -9223372036854775808 ≤ a) (a1 : a ≤ 9223372036854775807) (b0 : -9223372036854775808 ≤ b) (b1 : b ≤ 9223372036854775807) (h : Tab w) (G : Nat) (hG : gcdS a b = (G : Int)) (hG1 : 1 ≤ (G : Int)) (_hG2 : (G : Int) ≤ 9223372036854775807)
    (ta : a.tmod (G : Int) = 0) (tb : b.tmod (G : Int) = 0)  (m1 : (lcmS a b).2 = 0) (_n2 : ((lim (a * b)).2 == 0) = false) (_f2 : ¬ (lim (a * b)).2 = 0) :
    Calls Tryd.prog 8 #[.int .i64 a, .int .i64 b, .int .i64 0] w fun e w' => e = .returned (.bool true) ∧ Below w.heap.size w w' := by
  have T := Lib.hid h
  clear h
  have i0 := (lcmS_in a b).1
  have i1 := (lcmS_in a b).2
  have g0 : ((G : Int) == 0) = false := by simp; omega
  have g00 : ¬ (G : Int) = 0 := by omega
  go_enter Tryd.func8, Tryd.ntmps8
  go_wp2_with (first | (go_at_call 23; refine (gcdCode_any _ _ _ (by omega) (by omega) (by omega) (by omega)).mono ?_; rintro e w' ⟨rfl, nd, rfl⟩) | (go_at_call 21; refine (lcmCode_any _ _ _ (by omega) (by omega) (by omega) (by omega)).mono ?_; rintro e w' ⟨rfl, nd, rfl⟩) | (go_at_call 14; refine (mulCode_any _ _ _ (by omega) (by omega) (by omega) (by omega)).mono ?_; rintro e w' ⟨rfl, rfl⟩) | (go_at_call 16; fail))
  refine (awake_any _ ?_).mono ?_
  · first | exact T.out | exact T.out.later (below_drewN _ _) | exact (T.out.later (below_drewN _ _)).later (below_drewN _ _) | exact ((T.out.later (below_drewN _ _)).later (below_drewN _ _)).later (below_drewN _ _)
  rintro e W1 ⟨rfl, hb1⟩
  have HB1 := Lib.hid hb1
  clear hb1
  go_wp2_with fail
  go_ret
  exact ⟨rfl, later_drewn HB1.out⟩
set_option maxHeartbeats 400000 in
theorem multiples_02 (a b : Int) (w : World) (a0 : -9223372036854775808 ≤ a) (a1 : a ≤ 9223372036854775807) (b0 : -9223372036854775808 ≤ b) (b1 : b ≤ 9223372036854775807) (h : Tab w) (G : Nat) (hG : gcdS a b = (G : Int)) (hG1 : 1 ≤ (G : Int)) (_hG2 : (G : Int) ≤ 9223372036854775807)
    (ta : a.tmod (G : Int) = 0) (tb : b.tmod (G : Int) = 0)  (p : Int) (m1 : (lcmS a b).2 = 0) (m2 : (lim (a * b)).2 = 0) (m3 : (lim (a * b)).1 = p) (m4 : (p == -9223372036854775808) = true) :
    Calls Tryd.prog 8 #[.int .i64 a, .int .i64 b, .int .i64 0] w fun e w' => e = .returned (.bool true) ∧ Below w.heap.size w w' := by
  have T := Lib.hid h
  clear h
  have i0 := (lcmS_in a b).1
  have i1 := (lcmS_in a b).2
  have g0 : ((G : Int) == 0) = false := by simp; omega
  have g00 : ¬ (G : Int) = 0 := by omega
  go_enter Tryd.func8, Tryd.ntmps8
  go_wp2_with (first | (go_at_call 23; refine (gcdCode_any _ _ _ (by omega) (by omega) (by omega) (by omega)).mono ?_; rintro e w' ⟨rfl, nd, rfl⟩) | (go_at_call 21; refine (lcmCode_any _ _ _ (by omega) (by omega) (by omega) (by omega)).mono ?_; rintro e w' ⟨rfl, nd, rfl⟩) | (go_at_call 14; refine (mulCode_any _ _ _ (by omega) (by omega) (by omega) (by omega)).mono ?_; rintro e w' ⟨rfl, rfl⟩) | (go_at_call 16; fail))
  refine (awake_any _ ?_).mono ?_
  · first | exact T.out | exact T.out.later (below_drewN _ _) | exact (T.out.later (below_drewN _ _)).later (below_drewN _ _) | exact ((T.out.later (below_drewN _ _)).later (below_drewN _ _)).later (below_drewN _ _)
  rintro e W1 ⟨rfl, hb1⟩
  have HB1 := Lib.hid hb1
  clear hb1
  go_wp2_with fail
  go_ret
  exact ⟨rfl, later_drewn HB1.out⟩
set_option maxHeartbeats 400000 in
theorem multiples_03 (a b : Int) (w : World) (a0 : -9223372036854775808 ≤ a) (a1 : a ≤ 9223372036854775807) (b0 : -9223372036854775808 ≤ b) (b1 : b ≤ 9223372036854775807) (h : Tab w) (G : Nat) (hG : gcdS a b = (G : Int)) (hG1 : 1 ≤ (G : Int)) (_hG2 : (G : Int) ≤ 9223372036854775807)
    (ta : a.tmod (G : Int) = 0) (tb : b.tmod (G : Int) = 0)  (p : Int) (m1 : (lcmS a b).2 = 0) (m2 : (lim (a * b)).2 = 0) (m3 : (lim (a * b)).1 = p) (m4 : (p == -9223372036854775808) = false) (m5 : -9223372036854775808 < p) (m6 : p < 0) (m7 : (lim (G * (lcmS a b).1)).2 = 0) (m8 : (lim (G * (lcmS a b).1)).1 = -p) :
    Calls Tryd.prog 8 #[.int .i64 a, .int .i64 b, .int .i64 0] w fun e w' => e = .returned (.bool true) ∧ Below w.heap.size w w' := by
  have T := Lib.hid h
  clear h
  have i0 := (lcmS_in a b).1
  have i1 := (lcmS_in a b).2
  have g0 : ((G : Int) == 0) = false := by simp; omega
  have g00 : ¬ (G : Int) = 0 := by omega
  go_enter Tryd.func8, Tryd.ntmps8
  go_wp2_with (first | (go_at_call 23; refine (gcdCode_any _ _ _ (by omega) (by omega) (by omega) (by omega)).mono ?_; rintro e w' ⟨rfl, nd, rfl⟩) | (go_at_call 21; refine (lcmCode_any _ _ _ (by omega) (by omega) (by omega) (by omega)).mono ?_; rintro e w' ⟨rfl, nd, rfl⟩) | (go_at_call 14; refine (mulCode_any _ _ _ (by omega) (by omega) (by omega) (by omega)).mono ?_; rintro e w' ⟨rfl, rfl⟩) | (go_at_call 16; fail))
  refine (awake_any _ ?_).mono ?_
  · first | exact T.out | exact T.out.later (below_drewN _ _) | exact (T.out.later (below_drewN _ _)).later (below_drewN _ _) | exact ((T.out.later (below_drewN _ _)).later (below_drewN _ _)).later (below_drewN _ _)
  rintro e W1 ⟨rfl, hb1⟩
  have HB1 := Lib.hid hb1
  clear hb1
  go_wp2_with fail
  go_ret
  exact ⟨rfl, later_drewn HB1.out⟩
set_option maxHeartbeats 400000 in
theorem multiples_04 (a b : Int) (w : World) (a0 : -9223372036854775808 ≤ a) (a1 : a ≤ 9223372036854775807) (b0 : -9223372036854775808 ≤ b) (b1 : b ≤ 9223372036854775807) (h : Tab w) (G : Nat) (hG : gcdS a b = (G : Int)) (hG1 : 1 ≤ (G : Int)) (_hG2 : (G : Int) ≤ 9223372036854775807)
    (ta : a.tmod (G : Int) = 0) (tb : b.tmod (G : Int) = 0)  (p : Int) (m1 : (lcmS a b).2 = 0) (m2 : (lim (a * b)).2 = 0) (m3 : (lim (a * b)).1 = p) (m4 : (p == -9223372036854775808) = false) (m5 : 0 ≤ p) (m6 : p ≤ 9223372036854775807) (m7 : (lim (G * (lcmS a b).1)).2 = 0) (m8 : (lim (G * (lcmS a b).1)).1 = p) :
    Calls Tryd.prog 8 #[.int .i64 a, .int .i64 b, .int .i64 0] w fun e w' => e = .returned (.bool true) ∧ Below w.heap.size w w' := by
  have T := Lib.hid h
  clear h
  have i0 := (lcmS_in a b).1
  have i1 := (lcmS_in a b).2
  have g0 : ((G : Int) == 0) = false := by simp; omega
  have g00 : ¬ (G : Int) = 0 := by omega
  go_enter Tryd.func8, Tryd.ntmps8
  go_wp2_with (first | (go_at_call 23; refine (gcdCode_any _ _ _ (by omega) (by omega) (by omega) (by omega)).mono ?_; rintro e w' ⟨rfl, nd, rfl⟩) | (go_at_call 21; refine (lcmCode_any _ _ _ (by omega) (by omega) (by omega) (by omega)).mono ?_; rintro e w' ⟨rfl, nd, rfl⟩) | (go_at_call 14; refine (mulCode_any _ _ _ (by omega) (by omega) (by omega) (by omega)).mono ?_; rintro e w' ⟨rfl, rfl⟩) | (go_at_call 16; fail))
  refine (awake_any _ ?_).mono ?_
  · first | exact T.out | exact T.out.later (below_drewN _ _) | exact (T.out.later (below_drewN _ _)).later (below_drewN _ _) | exact ((T.out.later (below_drewN _ _)).later (below_drewN _ _)).later (below_drewN _ _)
  rintro e W1 ⟨rfl, hb1⟩
  have HB1 := Lib.hid hb1
  clear hb1
  go_wp2_with fail
  go_ret
  exact ⟨rfl, later_drewn HB1.out⟩
set_option maxHeartbeats 400000 in
theorem multiples_10 (a b : Int) (c : Int) (w : World) (a0 : -9223372036854775808 ≤ a) (a1 : a ≤ 9223372036854775807) (b0 : -9223372036854775808 ≤ b) (b1 : b ≤ 9223372036854775807) (_c0 : -9223372036854775808 ≤ c) (_c1 : c ≤ 9223372036854775807) (h : Tab w) (G : Nat) (hG : gcdS a b = (G : Int)) (hG1 : 1 ≤ (G : Int)) (_hG2 : (G : Int) ≤ 9223372036854775807)
    (ta : a.tmod (G : Int) = 0) (tb : b.tmod (G : Int) = 0) (_d0 : (c == 0) = false) (_e0 : ¬ c = 0) (_d1 : (a.tmod c == 0) = false) (_e1 : ¬ a.tmod c = 0) (_n1 : ((lcmS a b).2 == 0) = false) (_f1 : ¬ (lcmS a b).2 = 0) :
    Calls Tryd.prog 8 #[.int .i64 a, .int .i64 b, .int .i64 c] w fun e w' => e = .returned (.bool true) ∧ Below w.heap.size w w' := by
  have T := Lib.hid h
  clear h
  have i0 := (lcmS_in a b).1
  have i1 := (lcmS_in a b).2
  have g0 : ((G : Int) == 0) = false := by simp; omega
  have g00 : ¬ (G : Int) = 0 := by omega
  go_enter Tryd.func8, Tryd.ntmps8
  go_wp2_with (first | (go_at_call 23; refine (gcdCode_any _ _ _ (by omega) (by omega) (by omega) (by omega)).mono ?_; rintro e w' ⟨rfl, nd, rfl⟩) | (go_at_call 21; refine (lcmCode_any _ _ _ (by omega) (by omega) (by omega) (by omega)).mono ?_; rintro e w' ⟨rfl, nd, rfl⟩) | (go_at_call 14; refine (mulCode_any _ _ _ (by omega) (by omega) (by omega) (by omega)).mono ?_; rintro e w' ⟨rfl, rfl⟩) | (go_at_call 16; fail))
  refine (awake_any _ ?_).mono ?_
  · first | exact T.out | exact T.out.later (below_drewN _ _) | exact (T.out.later (below_drewN _ _)).later (below_drewN _ _) | exact ((T.out.later (below_drewN _ _)).later (below_drewN _ _)).later (below_drewN _ _)
  rintro e W1 ⟨rfl, hb1⟩
  have HB1 := Lib.hid hb1
  clear hb1
  go_wp2_with fail
  go_ret
  exact ⟨rfl, later_drewn HB1.out⟩
set_option maxHeartbeats 400000 in
theorem multiples_11 (a b : Int) (c : Int) (w : World) (a0 : -9223372036854775808 ≤ a) (a1 : a ≤ 9223372036854775807) (b0 : -9223372036854775808 ≤ b) (b1 : b ≤ 9223372036854775807) (_c0 : -9223372036854775808 ≤ c) (_c1 : c ≤ 9223372036854775807) (h : Tab w) (G : Nat) (hG : gcdS a b = (G : Int)) (hG1 : 1 ≤ (G : Int)) (_hG2 : (G : Int) ≤ 9223372036854775807)
    (ta : a.tmod (G : Int) = 0) (tb : b.tmod (G : Int) = 0) (_d0 : (c == 0) = false) (_e0 : ¬ c = 0) (_d1 : (a.tmod c == 0) = false) (_e1 : ¬ a.tmod c = 0) (m1 : (lcmS a b).2 = 0) (_n2 : ((lim (a * b)).2 == 0) = false) (_f2 : ¬ (lim (a * b)).2 = 0) :
    Calls Tryd.prog 8 #[.int .i64 a, .int .i64 b, .int .i64 c] w fun e w' => e = .returned (.bool true) ∧ Below w.heap.size w w' := by
  have T := Lib.hid h
  clear h
  have i0 := (lcmS_in a b).1
  have i1 := (lcmS_in a b).2
  have g0 : ((G : Int) == 0) = false := by simp; omega
  have g00 : ¬ (G : Int) = 0 := by omega
  go_enter Tryd.func8, Tryd.ntmps8
  go_wp2_with (first | (go_at_call 23; refine (gcdCode_any _ _ _ (by omega) (by omega) (by omega) (by omega)).mono ?_; rintro e w' ⟨rfl, nd, rfl⟩) | (go_at_call 21; refine (lcmCode_any _ _ _ (by omega) (by omega) (by omega) (by omega)).mono ?_; rintro e w' ⟨rfl, nd, rfl⟩) | (go_at_call 14; refine (mulCode_any _ _ _ (by omega) (by omega) (by omega) (by omega)).mono ?_; rintro e w' ⟨rfl, rfl⟩) | (go_at_call 16; fail))
  refine (awake_any _ ?_).mono ?_
  · first | exact T.out | exact T.out.later (below_drewN _ _) | exact (T.out.later (below_drewN _ _)).later (below_drewN _ _) | exact ((T.out.later (below_drewN _ _)).later (below_drewN _ _)).later (below_drewN _ _)
  rintro e W1 ⟨rfl, hb1⟩
  have HB1 := Lib.hid hb1
  clear hb1
  go_wp2_with fail
  go_ret
  exact ⟨rfl, later_drewn HB1.out⟩
set_option maxHeartbeats 400000 in
theorem multiples_12 (a b : Int) (c : Int) (w : World) (a0 : -9223372036854775808 ≤ a) (a1 : a ≤ 9223372036854775807) (b0 : -9223372036854775808 ≤ b) (b1 : b ≤ 9223372036854775807) (_c0 : -9223372036854775808 ≤ c) (_c1 : c ≤ 9223372036854775807) (h : Tab w) (G : Nat) (hG : gcdS a b = (G : Int)) (hG1 : 1 ≤ (G : Int)) (_hG2 : (G : Int) ≤ 9223372036854775807)
    (ta : a.tmod (G : Int) = 0) (tb : b.tmod (G : Int) = 0) (_d0 : (c == 0) = false) (_e0 : ¬ c = 0) (_d1 : (a.tmod c == 0) = false) (_e1 : ¬ a.tmod c = 0) (p : Int) (m1 : (lcmS a b).2 = 0) (m2 : (lim (a * b)).2 = 0) (m3 : (lim (a * b)).1 = p) (m4 : (p == -9223372036854775808) = true) :
    Calls Tryd.prog 8 #[.int .i64 a, .int .i64 b, .int .i64 c] w fun e w' => e = .returned (.bool true) ∧ Below w.heap.size w w' := by
  have T := Lib.hid h
  clear h
  have i0 := (lcmS_in a b).1
  have i1 := (lcmS_in a b).2
  have g0 : ((G : Int) == 0) = false := by simp; omega
  have g00 : ¬ (G : Int) = 0 := by omega
  go_enter Tryd.func8, Tryd.ntmps8
  go_wp2_with (first | (go_at_call 23; refine (gcdCode_any _ _ _ (by omega) (by omega) (by omega) (by omega)).mono ?_; rintro e w' ⟨rfl, nd, rfl⟩) | (go_at_call 21; refine (lcmCode_any _ _ _ (by omega) (by omega) (by omega) (by omega)).mono ?_; rintro e w' ⟨rfl, nd, rfl⟩) | (go_at_call 14; refine (mulCode_any _ _ _ (by omega) (by omega) (by omega) (by omega)).mono ?_; rintro e w' ⟨rfl, rfl⟩) | (go_at_call 16; fail))
  refine (awake_any _ ?_).mono ?_
  · first | exact T.out | exact T.out.later (below_drewN _ _) | exact (T.out.later (below_drewN _ _)).later (below_drewN _ _) | exact ((T.out.later (below_drewN _ _)).later (below_drewN _ _)).later (below_drewN _ _)
  rintro e W1 ⟨rfl, hb1⟩
  have HB1 := Lib.hid hb1
  clear hb1
  go_wp2_with fail
  go_ret
  exact ⟨rfl, later_drewn HB1.out⟩
set_option maxHeartbeats 400000 in
theorem multiples_13 (a b : Int) (c : Int) (w : World) (a0 : -9223372036854775808 ≤ a) (a1 : a ≤ 9223372036854775807) (b0 : -9223372036854775808 ≤ b) (b1 : b ≤ 9223372036854775807) (_c0 : -9223372036854775808 ≤ c) (_c1 : c ≤ 9223372036854775807) (h : Tab w) (G : Nat) (hG : gcdS a b = (G : Int)) (hG1 : 1 ≤ (G : Int)) (_hG2 : (G : Int) ≤ 9223372036854775807)
    (ta : a.tmod (G : Int) = 0) (tb : b.tmod (G : Int) = 0) (_d0 : (c == 0) = false) (_e0 : ¬ c = 0) (_d1 : (a.tmod c == 0) = false) (_e1 : ¬ a.tmod c = 0) (p : Int) (m1 : (lcmS a b).2 = 0) (m2 : (lim (a * b)).2 = 0) (m3 : (lim (a * b)).1 = p) (m4 : (p == -9223372036854775808) = false) (m5 : -9223372036854775808 < p) (m6 : p < 0) (m7 : (lim (G * (lcmS a b).1)).2 = 0) (m8 : (lim (G * (lcmS a b).1)).1 = -p) :
    Calls Tryd.prog 8 #[.int .i64 a, .int .i64 b, .int .i64 c] w fun e w' => e = .returned (.bool true) ∧ Below w.heap.size w w' := by
  have T := Lib.hid h
  clear h
  have i0 := (lcmS_in a b).1
  have i1 := (lcmS_in a b).2
  have g0 : ((G : Int) == 0) = false := by simp; omega
  have g00 : ¬ (G : Int) = 0 := by omega
  go_enter Tryd.func8, Tryd.ntmps8
  go_wp2_with (first | (go_at_call 23; refine (gcdCode_any _ _ _ (by omega) (by omega) (by omega) (by omega)).mono ?_; rintro e w' ⟨rfl, nd, rfl⟩) | (go_at_call 21; refine (lcmCode_any _ _ _ (by omega) (by omega) (by omega) (by omega)).mono ?_; rintro e w' ⟨rfl, nd, rfl⟩) | (go_at_call 14; refine (mulCode_any _ _ _ (by omega) (by omega) (by omega) (by omega)).mono ?_; rintro e w' ⟨rfl, rfl⟩) | (go_at_call 16; fail))
  refine (awake_any _ ?_).mono ?_
  · first | exact T.out | exact T.out.later (below_drewN _ _) | exact (T.out.later (below_drewN _ _)).later (below_drewN _ _) | exact ((T.out.later (below_drewN _ _)).later (below_drewN _ _)).later (below_drewN _ _)
  rintro e W1 ⟨rfl, hb1⟩
  have HB1 := Lib.hid hb1
  clear hb1
  go_wp2_with fail
  go_ret
  exact ⟨rfl, later_drewn HB1.out⟩
set_option maxHeartbeats 400000 in
theorem multiples_14 (a b : Int) (c : Int) (w : World) (a0 : -9223372036854775808 ≤ a) (a1 : a ≤ 9223372036854775807) (b0 : -9223372036854775808 ≤ b) (b1 : b ≤ 9223372036854775807) (_c0 : -9223372036854775808 ≤ c) (_c1 : c ≤ 9223372036854775807) (h : Tab w) (G : Nat) (hG : gcdS a b = (G : Int)) (hG1 : 1 ≤ (G : Int)) (_hG2 : (G : Int) ≤ 9223372036854775807)
    (ta : a.tmod (G : Int) = 0) (tb : b.tmod (G : Int) = 0) (_d0 : (c == 0) = false) (_e0 : ¬ c = 0) (_d1 : (a.tmod c == 0) = false) (_e1 : ¬ a.tmod c = 0) (p : Int) (m1 : (lcmS a b).2 = 0) (m2 : (lim (a * b)).2 = 0) (m3 : (lim (a * b)).1 = p) (m4 : (p == -9223372036854775808) = false) (m5 : 0 ≤ p) (m6 : p ≤ 9223372036854775807) (m7 : (lim (G * (lcmS a b).1)).2 = 0) (m8 : (lim (G * (lcmS a b).1)).1 = p) :
    Calls Tryd.prog 8 #[.int .i64 a, .int .i64 b, .int .i64 c] w fun e w' => e = .returned (.bool true) ∧ Below w.heap.size w w' := by
  have T := Lib.hid h
  clear h
  have i0 := (lcmS_in a b).1
  have i1 := (lcmS_in a b).2
  have g0 : ((G : Int) == 0) = false := by simp; omega
  have g00 : ¬ (G : Int) = 0 := by omega
  go_enter Tryd.func8, Tryd.ntmps8
  go_wp2_with (first | (go_at_call 23; refine (gcdCode_any _ _ _ (by omega) (by omega) (by omega) (by omega)).mono ?_; rintro e w' ⟨rfl, nd, rfl⟩) | (go_at_call 21; refine (lcmCode_any _ _ _ (by omega) (by omega) (by omega) (by omega)).mono ?_; rintro e w' ⟨rfl, nd, rfl⟩) | (go_at_call 14; refine (mulCode_any _ _ _ (by omega) (by omega) (by omega) (by omega)).mono ?_; rintro e w' ⟨rfl, rfl⟩) | (go_at_call 16; fail))
  refine (awake_any _ ?_).mono ?_
  · first | exact T.out | exact T.out.later (below_drewN _ _) | exact (T.out.later (below_drewN _ _)).later (below_drewN _ _) | exact ((T.out.later (below_drewN _ _)).later (below_drewN _ _)).later (below_drewN _ _)
  rintro e W1 ⟨rfl, hb1⟩
  have HB1 := Lib.hid hb1
  clear hb1
  go_wp2_with fail
  go_ret
  exact ⟨rfl, later_drewn HB1.out⟩
set_option maxHeartbeats 400000 in
theorem multiples_20 (a b : Int) (c : Int) (w : World) (a0 : -9223372036854775808 ≤ a) (a1 : a ≤ 9223372036854775807) (b0 : -9223372036854775808 ≤ b) (b1 : b ≤ 9223372036854775807) (_c0 : -9223372036854775808 ≤ c) (_c1 : c ≤ 9223372036854775807) (h : Tab w) (G : Nat) (hG : gcdS a b = (G : Int)) (hG1 : 1 ≤ (G : Int)) (_hG2 : (G : Int) ≤ 9223372036854775807)
    (ta : a.tmod (G : Int) = 0) (tb : b.tmod (G : Int) = 0) (_d0 : (c == 0) = false) (_e0 : ¬ c = 0) (c1 : a.tmod c = 0) (_d2 : (b.tmod c == 0) = false) (_e2 : ¬ b.tmod c = 0) (_n1 : ((lcmS a b).2 == 0) = false) (_f1 : ¬ (lcmS a b).2 = 0) :
    Calls Tryd.prog 8 #[.int .i64 a, .int .i64 b, .int .i64 c] w fun e w' => e = .returned (.bool true) ∧ Below w.heap.size w w' := by
  have T := Lib.hid h
  clear h
  have i0 := (lcmS_in a b).1
  have i1 := (lcmS_in a b).2
  have g0 : ((G : Int) == 0) = false := by simp; omega
  have g00 : ¬ (G : Int) = 0 := by omega
  go_enter Tryd.func8, Tryd.ntmps8
  go_wp2_with (first | (go_at_call 23; refine (gcdCode_any _ _ _ (by omega) (by omega) (by omega) (by omega)).mono ?_; rintro e w' ⟨rfl, nd, rfl⟩) | (go_at_call 21; refine (lcmCode_any _ _ _ (by omega) (by omega) (by omega) (by omega)).mono ?_; rintro e w' ⟨rfl, nd, rfl⟩) | (go_at_call 14; refine (mulCode_any _ _ _ (by omega) (by omega) (by omega) (by omega)).mono ?_; rintro e w' ⟨rfl, rfl⟩) | (go_at_call 16; fail))
  refine (awake_any _ ?_).mono ?_
  · first | exact T.out | exact T.out.later (below_drewN _ _) | exact (T.out.later (below_drewN _ _)).later (below_drewN _ _) | exact ((T.out.later (below_drewN _ _)).later (below_drewN _ _)).later (below_drewN _ _)
  rintro e W1 ⟨rfl, hb1⟩
  have HB1 := Lib.hid hb1
  clear hb1
  go_wp2_with fail
  go_ret
  exact ⟨rfl, later_drewn HB1.out⟩
set_option maxHeartbeats 400000 in
theorem multiples_21 (a b : Int) (c : Int) (w : World) (a0 : -9223372036854775808 ≤ a) (a1 : a ≤ 9223372036854775807) (b0 : -9223372036854775808 ≤ b) (b1 : b ≤ 9223372036854775807) (_c0 : -9223372036854775808 ≤ c) (_c1 : c ≤ 9223372036854775807) (h : Tab w) (G : Nat) (hG : gcdS a b = (G : Int)) (hG1 : 1 ≤ (G : Int)) (_hG2 : (G : Int) ≤ 9223372036854775807)
    (ta : a.tmod (G : Int) = 0) (tb : b.tmod (G : Int) = 0) (_d0 : (c == 0) = false) (_e0 : ¬ c = 0) (c1 : a.tmod c = 0) (_d2 : (b.tmod c == 0) = false) (_e2 : ¬ b.tmod c = 0) (m1 : (lcmS a b).2 = 0) (_n2 : ((lim (a * b)).2 == 0) = false) (_f2 : ¬ (lim (a * b)).2 = 0) :
    Calls Tryd.prog 8 #[.int .i64 a, .int .i64 b, .int .i64 c] w fun e w' => e = .returned (.bool true) ∧ Below w.heap.size w w' := by
  have T := Lib.hid h
  clear h
  have i0 := (lcmS_in a b).1
  have i1 := (lcmS_in a b).2
  have g0 : ((G : Int) == 0) = false := by simp; omega
  have g00 : ¬ (G : Int) = 0 := by omega
  go_enter Tryd.func8, Tryd.ntmps8
  go_wp2_with (first | (go_at_call 23; refine (gcdCode_any _ _ _ (by omega) (by omega) (by omega) (by omega)).mono ?_; rintro e w' ⟨rfl, nd, rfl⟩) | (go_at_call 21; refine (lcmCode_any _ _ _ (by omega) (by omega) (by omega) (by omega)).mono ?_; rintro e w' ⟨rfl, nd, rfl⟩) | (go_at_call 14; refine (mulCode_any _ _ _ (by omega) (by omega) (by omega) (by omega)).mono ?_; rintro e w' ⟨rfl, rfl⟩) | (go_at_call 16; fail))
  refine (awake_any _ ?_).mono ?_
  · first | exact T.out | exact T.out.later (below_drewN _ _) | exact (T.out.later (below_drewN _ _)).later (below_drewN _ _) | exact ((T.out.later (below_drewN _ _)).later (below_drewN _ _)).later (below_drewN _ _)
  rintro e W1 ⟨rfl, hb1⟩
  have HB1 := Lib.hid hb1
  clear hb1
  go_wp2_with fail
  go_ret
  exact ⟨rfl, later_drewn HB1.out⟩
set_option maxHeartbeats 400000 in
theorem multiples_22 (a b : Int) (c : Int) (w : World) (a0 : -9223372036854775808 ≤ a) (a1 : a ≤ 9223372036854775807) (b0 : -9223372036854775808 ≤ b) (b1 : b ≤ 9223372036854775807) (_c0 : -9223372036854775808 ≤ c) (_c1 : c ≤ 9223372036854775807) (h : Tab w) (G : Nat) (hG : gcdS a b = (G : Int)) (hG1 : 1 ≤ (G : Int)) (_hG2 : (G : Int) ≤ 9223372036854775807)
    (ta : a.tmod (G : Int) = 0) (tb : b.tmod (G : Int) = 0) (_d0 : (c == 0) = false) (_e0 : ¬ c = 0) (c1 : a.tmod c = 0) (_d2 : (b.tmod c == 0) = false) (_e2 : ¬ b.tmod c = 0) (p : Int) (m1 : (lcmS a b).2 = 0) (m2 : (lim (a * b)).2 = 0) (m3 : (lim (a * b)).1 = p) (m4 : (p == -9223372036854775808) = true) :
    Calls Tryd.prog 8 #[.int .i64 a, .int .i64 b, .int .i64 c] w fun e w' => e = .returned (.bool true) ∧ Below w.heap.size w w' := by
  have T := Lib.hid h
  clear h
  have i0 := (lcmS_in a b).1
  have i1 := (lcmS_in a b).2
  have g0 : ((G : Int) == 0) = false := by simp; omega
  have g00 : ¬ (G : Int) = 0 := by omega
  go_enter Tryd.func8, Tryd.ntmps8
  go_wp2_with (first | (go_at_call 23; refine (gcdCode_any _ _ _ (by omega) (by omega) (by omega) (by omega)).mono ?_; rintro e w' ⟨rfl, nd, rfl⟩) | (go_at_call 21; refine (lcmCode_any _ _ _ (by omega) (by omega) (by omega) (by omega)).mono ?_; rintro e w' ⟨rfl, nd, rfl⟩) | (go_at_call 14; refine (mulCode_any _ _ _ (by omega) (by omega) (by omega) (by omega)).mono ?_; rintro e w' ⟨rfl, rfl⟩) | (go_at_call 16; fail))
  refine (awake_any _ ?_).mono ?_
  · first | exact T.out | exact T.out.later (below_drewN _ _) | exact (T.out.later (below_drewN _ _)).later (below_drewN _ _) | exact ((T.out.later (below_drewN _ _)).later (below_drewN _ _)).later (below_drewN _ _)
  rintro e W1 ⟨rfl, hb1⟩
  have HB1 := Lib.hid hb1
  clear hb1
  go_wp2_with fail
  go_ret
  exact ⟨rfl, later_drewn HB1.out⟩
set_option maxHeartbeats 400000 in
theorem multiples_23 (a b : Int) (c : Int) (w : World) (a0 : -9223372036854775808 ≤ a) (a1 : a ≤ 9223372036854775807) (b0 : -9223372036854775808 ≤ b) (b1 : b ≤ 9223372036854775807) (_c0 : -9223372036854775808 ≤ c) (_c1 : c ≤ 9223372036854775807) (h : Tab w) (G : Nat) (hG : gcdS a b = (G : Int)) (hG1 : 1 ≤ (G : Int)) (_hG2 : (G : Int) ≤ 9223372036854775807)
    (ta : a.tmod (G : Int) = 0) (tb : b.tmod (G : Int) = 0) (_d0 : (c == 0) = false) (_e0 : ¬ c = 0) (c1 : a.tmod c = 0) (_d2 : (b.tmod c == 0) = false) (_e2 : ¬ b.tmod c = 0) (p : Int) (m1 : (lcmS a b).2 = 0) (m2 : (lim (a * b)).2 = 0) (m3 : (lim (a * b)).1 = p) (m4 : (p == -9223372036854775808) = false) (m5 : -9223372036854775808 < p) (m6 : p < 0) (m7 : (lim (G * (lcmS a b).1)).2 = 0) (m8 : (lim (G * (lcmS a b).1)).1 = -p) :
    Calls Tryd.prog 8 #[.int .i64 a, .int .i64 b, .int .i64 c] w fun e w' => e = .returned (.bool true) ∧ Below w.heap.size w w' := by
  have T := Lib.hid h
  clear h
  have i0 := (lcmS_in a b).1
  have i1 := (lcmS_in a b).2
  have g0 : ((G : Int) == 0) = false := by simp; omega
  have g00 : ¬ (G : Int) = 0 := by omega
  go_enter Tryd.func8, Tryd.ntmps8
  go_wp2_with (first | (go_at_call 23; refine (gcdCode_any _ _ _ (by omega) (by omega) (by omega) (by omega)).mono ?_; rintro e w' ⟨rfl, nd, rfl⟩) | (go_at_call 21; refine (lcmCode_any _ _ _ (by omega) (by omega) (by omega) (by omega)).mono ?_; rintro e w' ⟨rfl, nd, rfl⟩) | (go_at_call 14; refine (mulCode_any _ _ _ (by omega) (by omega) (by omega) (by omega)).mono ?_; rintro e w' ⟨rfl, rfl⟩) | (go_at_call 16; fail))
  refine (awake_any _ ?_).mono ?_
  · first | exact T.out | exact T.out.later (below_drewN _ _) | exact (T.out.later (below_drewN _ _)).later (below_drewN _ _) | exact ((T.out.later (below_drewN _ _)).later (below_drewN _ _)).later (below_drewN _ _)
  rintro e W1 ⟨rfl, hb1⟩
  have HB1 := Lib.hid hb1
  clear hb1
  go_wp2_with fail
  go_ret
  exact ⟨rfl, later_drewn HB1.out⟩
set_option maxHeartbeats 400000 in
theorem multiples_24 (a b : Int) (c : Int) (w : World) (a0 : -9223372036854775808 ≤ a) (a1 : a ≤ 9223372036854775807) (b0 : -9223372036854775808 ≤ b) (b1 : b ≤ 9223372036854775807) (_c0 : -9223372036854775808 ≤ c) (_c1 : c ≤ 9223372036854775807) (h : Tab w) (G : Nat) (hG : gcdS a b = (G : Int)) (hG1 : 1 ≤ (G : Int)) (_hG2 : (G : Int) ≤ 9223372036854775807)
    (ta : a.tmod (G : Int) = 0) (tb : b.tmod (G : Int) = 0) (_d0 : (c == 0) = false) (_e0 : ¬ c = 0) (c1 : a.tmod c = 0) (_d2 : (b.tmod c == 0) = false) (_e2 : ¬ b.tmod c = 0) (p : Int) (m1 : (lcmS a b).2 = 0) (m2 : (lim (a * b)).2 = 0) (m3 : (lim (a * b)).1 = p) (m4 : (p == -9223372036854775808) = false) (m5 : 0 ≤ p) (m6 : p ≤ 9223372036854775807) (m7 : (lim (G * (lcmS a b).1)).2 = 0) (m8 : (lim (G * (lcmS a b).1)).1 = p) :
    Calls Tryd.prog 8 #[.int .i64 a, .int .i64 b, .int .i64 c] w fun e w' => e = .returned (.bool true) ∧ Below w.heap.size w w' := by
  have T := Lib.hid h
  clear h
  have i0 := (lcmS_in a b).1
  have i1 := (lcmS_in a b).2
  have g0 : ((G : Int) == 0) = false := by simp; omega
  have g00 : ¬ (G : Int) = 0 := by omega
  go_enter Tryd.func8, Tryd.ntmps8
  go_wp2_with (first | (go_at_call 23; refine (gcdCode_any _ _ _ (by omega) (by omega) (by omega) (by omega)).mono ?_; rintro e w' ⟨rfl, nd, rfl⟩) | (go_at_call 21; refine (lcmCode_any _ _ _ (by omega) (by omega) (by omega) (by omega)).mono ?_; rintro e w' ⟨rfl, nd, rfl⟩) | (go_at_call 14; refine (mulCode_any _ _ _ (by omega) (by omega) (by omega) (by omega)).mono ?_; rintro e w' ⟨rfl, rfl⟩) | (go_at_call 16; fail))
  refine (awake_any _ ?_).mono ?_
  · first | exact T.out | exact T.out.later (below_drewN _ _) | exact (T.out.later (below_drewN _ _)).later (below_drewN _ _) | exact ((T.out.later (below_drewN _ _)).later (below_drewN _ _)).later (below_drewN _ _)
  rintro e W1 ⟨rfl, hb1⟩
  have HB1 := Lib.hid hb1
  clear hb1
  go_wp2_with fail
  go_ret
  exact ⟨rfl, later_drewn HB1.out⟩
set_option maxHeartbeats 400000 in
theorem multiples_30 (a b : Int) (c : Int) (w : World) (a0 : -9223372036854775808 ≤ a) (a1 : a ≤ 9223372036854775807) (b0 : -9223372036854775808 ≤ b) (b1 : b ≤ 9223372036854775807) (_c0 : -9223372036854775808 ≤ c) (_c1 : c ≤ 9223372036854775807) (h : Tab w) (G : Nat) (hG : gcdS a b = (G : Int)) (hG1 : 1 ≤ (G : Int)) (_hG2 : (G : Int) ≤ 9223372036854775807)
    (ta : a.tmod (G : Int) = 0) (tb : b.tmod (G : Int) = 0) (_d0 : (c == 0) = false) (_e0 : ¬ c = 0) (c1 : a.tmod c = 0) (c2 : b.tmod c = 0) (c3 : (G : Int) % c = 0) (_n1 : ((lcmS a b).2 == 0) = false) (_f1 : ¬ (lcmS a b).2 = 0) :
    Calls Tryd.prog 8 #[.int .i64 a, .int .i64 b, .int .i64 c] w fun e w' => e = .returned (.bool true) ∧ Below w.heap.size w w' := by
  have T := Lib.hid h
  clear h
  have i0 := (lcmS_in a b).1
  have i1 := (lcmS_in a b).2
  have g0 : ((G : Int) == 0) = false := by simp; omega
  have g00 : ¬ (G : Int) = 0 := by omega
  go_enter Tryd.func8, Tryd.ntmps8
  go_wp2_with (first | (go_at_call 23; refine (gcdCode_any _ _ _ (by omega) (by omega) (by omega) (by omega)).mono ?_; rintro e w' ⟨rfl, nd, rfl⟩) | (go_at_call 21; refine (lcmCode_any _ _ _ (by omega) (by omega) (by omega) (by omega)).mono ?_; rintro e w' ⟨rfl, nd, rfl⟩) | (go_at_call 14; refine (mulCode_any _ _ _ (by omega) (by omega) (by omega) (by omega)).mono ?_; rintro e w' ⟨rfl, rfl⟩) | (go_at_call 16; fail))
  refine (awake_any _ ?_).mono ?_
  · first | exact T.out | exact T.out.later (below_drewN _ _) | exact (T.out.later (below_drewN _ _)).later (below_drewN _ _) | exact ((T.out.later (below_drewN _ _)).later (below_drewN _ _)).later (below_drewN _ _)
  rintro e W1 ⟨rfl, hb1⟩
  have HB1 := Lib.hid hb1
  clear hb1
  go_wp2_with fail
  go_ret
  exact ⟨rfl, later_drewn HB1.out⟩
set_option maxHeartbeats 400000 in
theorem multiples_31 (a b : Int) (c : Int) (w : World) (a0 : -9223372036854775808 ≤ a) (a1 : a ≤ 9223372036854775807) (b0 : -9223372036854775808 ≤ b) (b1 : b ≤ 9223372036854775807) (_c0 : -9223372036854775808 ≤ c) (_c1 : c ≤ 9223372036854775807) (h : Tab w) (G : Nat) (hG : gcdS a b = (G : Int)) (hG1 : 1 ≤ (G : Int)) (_hG2 : (G : Int) ≤ 9223372036854775807)
    (ta : a.tmod (G : Int) = 0) (tb : b.tmod (G : Int) = 0) (_d0 : (c == 0) = false) (_e0 : ¬ c = 0) (c1 : a.tmod c = 0) (c2 : b.tmod c = 0) (c3 : (G : Int) % c = 0) (m1 : (lcmS a b).2 = 0) (_n2 : ((lim (a * b)).2 == 0) = false) (_f2 : ¬ (lim (a * b)).2 = 0) :
    Calls Tryd.prog 8 #[.int .i64 a, .int .i64 b, .int .i64 c] w fun e w' => e = .returned (.bool true) ∧ Below w.heap.size w w' := by
  have T := Lib.hid h
  clear h
  have i0 := (lcmS_in a b).1
  have i1 := (lcmS_in a b).2
  have g0 : ((G : Int) == 0) = false := by simp; omega
  have g00 : ¬ (G : Int) = 0 := by omega
  go_enter Tryd.func8, Tryd.ntmps8
  go_wp2_with (first | (go_at_call 23; refine (gcdCode_any _ _ _ (by omega) (by omega) (by omega) (by omega)).mono ?_; rintro e w' ⟨rfl, nd, rfl⟩) | (go_at_call 21; refine (lcmCode_any _ _ _ (by omega) (by omega) (by omega) (by omega)).mono ?_; rintro e w' ⟨rfl, nd, rfl⟩) | (go_at_call 14; refine (mulCode_any _ _ _ (by omega) (by omega) (by omega) (by omega)).mono ?_; rintro e w' ⟨rfl, rfl⟩) | (go_at_call 16; fail))
  refine (awake_any _ ?_).mono ?_
  · first | exact T.out | exact T.out.later (below_drewN _ _) | exact (T.out.later (below_drewN _ _)).later (below_drewN _ _) | exact ((T.out.later (below_drewN _ _)).later (below_drewN _ _)).later (below_drewN _ _)
  rintro e W1 ⟨rfl, hb1⟩
  have HB1 := Lib.hid hb1
  clear hb1
  go_wp2_with fail
  go_ret
  exact ⟨rfl, later_drewn HB1.out⟩
set_option maxHeartbeats 400000 in
theorem multiples_32 (a b : Int) (c : Int) (w : World) (a0 : -9223372036854775808 ≤ a) (a1 : a ≤ 9223372036854775807) (b0 : -9223372036854775808 ≤ b) (b1 : b ≤ 9223372036854775807) (_c0 : -9223372036854775808 ≤ c) (_c1 : c ≤ 9223372036854775807) (h : Tab w) (G : Nat) (hG : gcdS a b = (G : Int)) (hG1 : 1 ≤ (G : Int)) (_hG2 : (G : Int) ≤ 9223372036854775807)
    (ta : a.tmod (G : Int) = 0) (tb : b.tmod (G : Int) = 0) (_d0 : (c == 0) = false) (_e0 : ¬ c = 0) (c1 : a.tmod c = 0) (c2 : b.tmod c = 0) (c3 : (G : Int) % c = 0) (p : Int) (m1 : (lcmS a b).2 = 0) (m2 : (lim (a * b)).2 = 0) (m3 : (lim (a * b)).1 = p) (m4 : (p == -9223372036854775808) = true) :
    Calls Tryd.prog 8 #[.int .i64 a, .int .i64 b, .int .i64 c] w fun e w' => e = .returned (.bool true) ∧ Below w.heap.size w w' := by
  have T := Lib.hid h
  clear h
  have i0 := (lcmS_in a b).1
  have i1 := (lcmS_in a b).2
  have g0 : ((G : Int) == 0) = false := by simp; omega
  have g00 : ¬ (G : Int) = 0 := by omega
  go_enter Tryd.func8, Tryd.ntmps8
  go_wp2_with (first | (go_at_call 23; refine (gcdCode_any _ _ _ (by omega) (by omega) (by omega) (by omega)).mono ?_; rintro e w' ⟨rfl, nd, rfl⟩) | (go_at_call 21; refine (lcmCode_any _ _ _ (by omega) (by omega) (by omega) (by omega)).mono ?_; rintro e w' ⟨rfl, nd, rfl⟩) | (go_at_call 14; refine (mulCode_any _ _ _ (by omega) (by omega) (by omega) (by omega)).mono ?_; rintro e w' ⟨rfl, rfl⟩) | (go_at_call 16; fail))
  refine (awake_any _ ?_).mono ?_
  · first | exact T.out | exact T.out.later (below_drewN _ _) | exact (T.out.later (below_drewN _ _)).later (below_drewN _ _) | exact ((T.out.later (below_drewN _ _)).later (below_drewN _ _)).later (below_drewN _ _)
  rintro e W1 ⟨rfl, hb1⟩
  have HB1 := Lib.hid hb1
  clear hb1
  go_wp2_with fail
  go_ret
  exact ⟨rfl, later_drewn HB1.out⟩
set_option maxHeartbeats 400000 in
theorem multiples_33 (a b : Int) (c : Int) (w : World) (a0 : -9223372036854775808 ≤ a) (a1 : a ≤ 9223372036854775807) (b0 : -9223372036854775808 ≤ b) (b1 : b ≤ 9223372036854775807) (_c0 : -9223372036854775808 ≤ c) (_c1 : c ≤ 9223372036854775807) (h : Tab w) (G : Nat) (hG : gcdS a b = (G : Int)) (hG1 : 1 ≤ (G : Int)) (_hG2 : (G : Int) ≤ 9223372036854775807)
    (ta : a.tmod (G : Int) = 0) (tb : b.tmod (G : Int) = 0) (_d0 : (c == 0) = false) (_e0 : ¬ c = 0) (c1 : a.tmod c = 0) (c2 : b.tmod c = 0) (c3 : (G : Int) % c = 0) (p : Int) (m1 : (lcmS a b).2 = 0) (m2 : (lim (a * b)).2 = 0) (m3 : (lim (a * b)).1 = p) (m4 : (p == -9223372036854775808) = false) (m5 : -9223372036854775808 < p) (m6 : p < 0) (m7 : (lim (G * (lcmS a b).1)).2 = 0) (m8 : (lim (G * (lcmS a b).1)).1 = -p) :
    Calls Tryd.prog 8 #[.int .i64 a, .int .i64 b, .int .i64 c] w fun e w' => e = .returned (.bool true) ∧ Below w.heap.size w w' := by
  have T := Lib.hid h
  clear h
  have i0 := (lcmS_in a b).1
  have i1 := (lcmS_in a b).2
  have g0 : ((G : Int) == 0) = false := by simp; omega
  have g00 : ¬ (G : Int) = 0 := by omega
  go_enter Tryd.func8, Tryd.ntmps8
  go_wp2_with (first | (go_at_call 23; refine (gcdCode_any _ _ _ (by omega) (by omega) (by omega) (by omega)).mono ?_; rintro e w' ⟨rfl, nd, rfl⟩) | (go_at_call 21; refine (lcmCode_any _ _ _ (by omega) (by omega) (by omega) (by omega)).mono ?_; rintro e w' ⟨rfl, nd, rfl⟩) | (go_at_call 14; refine (mulCode_any _ _ _ (by omega) (by omega) (by omega) (by omega)).mono ?_; rintro e w' ⟨rfl, rfl⟩) | (go_at_call 16; fail))
  refine (awake_any _ ?_).mono ?_
  · first | exact T.out | exact T.out.later (below_drewN _ _) | exact (T.out.later (below_drewN _ _)).later (below_drewN _ _) | exact ((T.out.later (below_drewN _ _)).later (below_drewN _ _)).later (below_drewN _ _)
  rintro e W1 ⟨rfl, hb1⟩
  have HB1 := Lib.hid hb1
  clear hb1
  go_wp2_with fail
  go_ret
  exact ⟨rfl, later_drewn HB1.out⟩
set_option maxHeartbeats 400000 in
theorem multiples_34 (a b : Int) (c : Int) (w : World) (a0 : -9223372036854775808 ≤ a) (a1 : a ≤ 9223372036854775807) (b0 : -9223372036854775808 ≤ b) (b1 : b ≤ 9223372036854775807) (_c0 : -9223372036854775808 ≤ c) (_c1 : c ≤ 9223372036854775807) (h : Tab w) (G : Nat) (hG : gcdS a b = (G : Int)) (hG1 : 1 ≤ (G : Int)) (_hG2 : (G : Int) ≤ 9223372036854775807)
    (ta : a.tmod (G : Int) = 0) (tb : b.tmod (G : Int) = 0) (_d0 : (c == 0) = false) (_e0 : ¬ c = 0) (c1 : a.tmod c = 0) (c2 : b.tmod c = 0) (c3 : (G : Int) % c = 0) (p : Int) (m1 : (lcmS a b).2 = 0) (m2 : (lim (a * b)).2 = 0) (m3 : (lim (a * b)).1 = p) (m4 : (p == -9223372036854775808) = false) (m5 : 0 ≤ p) (m6 : p ≤ 9223372036854775807) (m7 : (lim (G * (lcmS a b).1)).2 = 0) (m8 : (lim (G * (lcmS a b).1)).1 = p) :
    Calls Tryd.prog 8 #[.int .i64 a, .int .i64 b, .int .i64 c] w fun e w' => e = .returned (.bool true) ∧ Below w.heap.size w w' := by
  have T := Lib.hid h
  clear h
  have i0 := (lcmS_in a b).1
  have i1 := (lcmS_in a b).2
  have g0 : ((G : Int) == 0) = false := by simp; omega
  have g00 : ¬ (G : Int) = 0 := by omega
  go_enter Tryd.func8, Tryd.ntmps8
  go_wp2_with (first | (go_at_call 23; refine (gcdCode_any _ _ _ (by omega) (by omega) (by omega) (by omega)).mono ?_; rintro e w' ⟨rfl, nd, rfl⟩) | (go_at_call 21; refine (lcmCode_any _ _ _ (by omega) (by omega) (by omega) (by omega)).mono ?_; rintro e w' ⟨rfl, nd, rfl⟩) | (go_at_call 14; refine (mulCode_any _ _ _ (by omega) (by omega) (by omega) (by omega)).mono ?_; rintro e w' ⟨rfl, rfl⟩) | (go_at_call 16; fail))
  refine (awake_any _ ?_).mono ?_
  · first | exact T.out | exact T.out.later (below_drewN _ _) | exact (T.out.later (below_drewN _ _)).later (below_drewN _ _) | exact ((T.out.later (below_drewN _ _)).later (below_drewN _ _)).later (below_drewN _ _)
  rintro e W1 ⟨rfl, hb1⟩
  have HB1 := Lib.hid hb1
  clear hb1
  go_wp2_with fail
  go_ret
  exact ⟨rfl, later_drewn HB1.out⟩
/-- The common divisor is not 0. -/
theorem multiples_some (a b c : Int) (w : World) (a0 : -9223372036854775808 ≤ a) (a1 : a ≤ 9223372036854775807) (b0 : -9223372036854775808 ≤ b) (b1 : b ≤ 9223372036854775807) (x0 : -9223372036854775808 ≤ c) (x1 : c ≤ 9223372036854775807) (h : Tab w) (G : Nat) (hG : gcdS a b = (G : Int)) (hG1 : 1 ≤ (G : Int)) (hG2 : (G : Int) ≤ 9223372036854775807)
    (ta : a.tmod (G : Int) = 0) (tb : b.tmod (G : Int) = 0)
    (hc : (c == 0) = true ∨ ((c == 0) = false ∧ ((a.tmod c == 0) = false ∨ ((a.tmod c == 0) = true ∧ (b.tmod c == 0) = false) ∨ ((a.tmod c == 0) = true ∧ (b.tmod c == 0) = true ∧ (G : Int) % c = 0))))
    (hm : MultCase a b G) :
    Calls Tryd.prog 8 #[.int .i64 a, .int .i64 b, .int .i64 c] w fun e w' => e = .returned (.bool true) ∧ Below w.heap.size w w' := by
  unfold MultCase at hm
  rcases hc with c0 | ⟨c0, c1 | ⟨c1, c2⟩ | ⟨c1, c2, c3⟩⟩
  · obtain rfl : c = 0 := by simpa using c0
    rcases hm with m1 | ⟨m1, m2⟩ | ⟨p, m1, m2, m3, m4⟩ | ⟨p, m1, m2, m3, m4, m5, m6, m7, m8⟩ | ⟨p, m1, m2, m3, m4, m5, m6, m7, m8⟩
    · exact multiples_00 a b w a0 a1 b0 b1 h G hG hG1 hG2 ta tb  m1 (by simpa using m1)
    · exact multiples_01 a b w a0 a1 b0 b1 h G hG hG1 hG2 ta tb  m1 m2 (by simpa using m2)
    · exact multiples_02 a b w a0 a1 b0 b1 h G hG hG1 hG2 ta tb  p m1 m2 m3 m4
    · exact multiples_03 a b w a0 a1 b0 b1 h G hG hG1 hG2 ta tb  p m1 m2 m3 m4 m5 m6 m7 m8
    · exact multiples_04 a b w a0 a1 b0 b1 h G hG hG1 hG2 ta tb  p m1 m2 m3 m4 m5 m6 m7 m8
  · rcases hm with m1 | ⟨m1, m2⟩ | ⟨p, m1, m2, m3, m4⟩ | ⟨p, m1, m2, m3, m4, m5, m6, m7, m8⟩ | ⟨p, m1, m2, m3, m4, m5, m6, m7, m8⟩
    · exact multiples_10 a b c w a0 a1 b0 b1 x0 x1 h G hG hG1 hG2 ta tb c0 (by simpa using c0) c1 (by simpa using c1) m1 (by simpa using m1)
    · exact multiples_11 a b c w a0 a1 b0 b1 x0 x1 h G hG hG1 hG2 ta tb c0 (by simpa using c0) c1 (by simpa using c1) m1 m2 (by simpa using m2)
    · exact multiples_12 a b c w a0 a1 b0 b1 x0 x1 h G hG hG1 hG2 ta tb c0 (by simpa using c0) c1 (by simpa using c1) p m1 m2 m3 m4
    · exact multiples_13 a b c w a0 a1 b0 b1 x0 x1 h G hG hG1 hG2 ta tb c0 (by simpa using c0) c1 (by simpa using c1) p m1 m2 m3 m4 m5 m6 m7 m8
    · exact multiples_14 a b c w a0 a1 b0 b1 x0 x1 h G hG hG1 hG2 ta tb c0 (by simpa using c0) c1 (by simpa using c1) p m1 m2 m3 m4 m5 m6 m7 m8
  · rcases hm with m1 | ⟨m1, m2⟩ | ⟨p, m1, m2, m3, m4⟩ | ⟨p, m1, m2, m3, m4, m5, m6, m7, m8⟩ | ⟨p, m1, m2, m3, m4, m5, m6, m7, m8⟩
    · exact multiples_20 a b c w a0 a1 b0 b1 x0 x1 h G hG hG1 hG2 ta tb c0 (by simpa using c0) (by simpa using c1) c2 (by simpa using c2) m1 (by simpa using m1)
    · exact multiples_21 a b c w a0 a1 b0 b1 x0 x1 h G hG hG1 hG2 ta tb c0 (by simpa using c0) (by simpa using c1) c2 (by simpa using c2) m1 m2 (by simpa using m2)
    · exact multiples_22 a b c w a0 a1 b0 b1 x0 x1 h G hG hG1 hG2 ta tb c0 (by simpa using c0) (by simpa using c1) c2 (by simpa using c2) p m1 m2 m3 m4
    · exact multiples_23 a b c w a0 a1 b0 b1 x0 x1 h G hG hG1 hG2 ta tb c0 (by simpa using c0) (by simpa using c1) c2 (by simpa using c2) p m1 m2 m3 m4 m5 m6 m7 m8
    · exact multiples_24 a b c w a0 a1 b0 b1 x0 x1 h G hG hG1 hG2 ta tb c0 (by simpa using c0) (by simpa using c1) c2 (by simpa using c2) p m1 m2 m3 m4 m5 m6 m7 m8
  · rcases hm with m1 | ⟨m1, m2⟩ | ⟨p, m1, m2, m3, m4⟩ | ⟨p, m1, m2, m3, m4, m5, m6, m7, m8⟩ | ⟨p, m1, m2, m3, m4, m5, m6, m7, m8⟩
    · exact multiples_30 a b c w a0 a1 b0 b1 x0 x1 h G hG hG1 hG2 ta tb c0 (by simpa using c0) (by simpa using c1) (by simpa using c2) c3 m1 (by simpa using m1)
    · exact multiples_31 a b c w a0 a1 b0 b1 x0 x1 h G hG hG1 hG2 ta tb c0 (by simpa using c0) (by simpa using c1) (by simpa using c2) c3 m1 m2 (by simpa using m2)
    · exact multiples_32 a b c w a0 a1 b0 b1 x0 x1 h G hG hG1 hG2 ta tb c0 (by simpa using c0) (by simpa using c1) (by simpa using c2) c3 p m1 m2 m3 m4
    · exact multiples_33 a b c w a0 a1 b0 b1 x0 x1 h G hG hG1 hG2 ta tb c0 (by simpa using c0) (by simpa using c1) (by simpa using c2) c3 p m1 m2 m3 m4 m5 m6 m7 m8
    · exact multiples_34 a b c w a0 a1 b0 b1 x0 x1 h G hG hG1 hG2 ta tb c0 (by simpa using c0) (by simpa using c1) (by simpa using c2) c3 p m1 m2 m3 m4 m5 m6 m7 m8
set_option maxHeartbeats 400000 in
/-- Both numbers are 0 or the least. -/
theorem multiples_none (a b c : Int) (w : World) (a0 : -9223372036854775808 ≤ a) (a1 : a ≤ 9223372036854775807) (b0 : -9223372036854775808 ≤ b) (b1 : b ≤ 9223372036854775807) (_c0 : -9223372036854775808 ≤ c) (_c1 : c ≤ 9223372036854775807) (h : Tab w) (hG : gcdS a b = 0)
    (ha : (a == 0) = true ∨ ((a == 0) = false ∧ (a == -9223372036854775808) = true)) (hb : (b == 0) = true ∨ ((b == 0) = false ∧ (b == -9223372036854775808) = true)) :
    Calls Tryd.prog 8 #[.int .i64 a, .int .i64 b, .int .i64 c] w fun e w' => e = .returned (.bool true) ∧ Below w.heap.size w w' := by
  have T := Lib.hid h
  clear h
  rcases ha with a2 | ⟨a2, a3⟩
  all_goals
    rcases hb with b2 | ⟨b2, b3⟩
    all_goals
      go_enter Tryd.func8, Tryd.ntmps8
      go_wp2_with (first | (go_at_call 23; refine (gcdCode_any _ _ _ (by omega) (by omega) (by omega) (by omega)).mono ?_; rintro e w' ⟨rfl, nd, rfl⟩) | (go_at_call 21; refine (lcmCode_any _ _ _ (by omega) (by omega) (by omega) (by omega)).mono ?_; rintro e w' ⟨rfl, nd, rfl⟩) | (go_at_call 14; refine (mulCode_any _ _ _ (by omega) (by omega) (by omega) (by omega)).mono ?_; rintro e w' ⟨rfl, rfl⟩) | (go_at_call 16; fail))
      refine (awake_any _ ?_).mono ?_
      · first | exact T.out | exact T.out.later (below_drewN _ _) | exact (T.out.later (below_drewN _ _)).later (below_drewN _ _) | exact ((T.out.later (below_drewN _ _)).later (below_drewN _ _)).later (below_drewN _ _)
      rintro e W1 ⟨rfl, hb1⟩
      have HB1 := Lib.hid hb1
      clear hb1
      go_wp2_with fail
      go_ret
      exact ⟨rfl, later_drewn HB1.out⟩

theorem multiples_any (a b c : Int) (w : World) (a0 : -9223372036854775808 ≤ a) (a1 : a ≤ 9223372036854775807) (b0 : -9223372036854775808 ≤ b) (b1 : b ≤ 9223372036854775807) (c0 : -9223372036854775808 ≤ c) (c1 : c ≤ 9223372036854775807) (h : Tab w) :
    Calls Tryd.prog 8 #[.int .i64 a, .int .i64 b, .int .i64 c] w fun e w' => e = .returned (.bool true) ∧ Below w.heap.size w w' := by
  rcases gcdS_cases a0 a1 b0 b1 with ⟨e, ha, hb⟩ | ⟨e, g1, g2⟩
  · exact multiples_none a b c w a0 a1 b0 b1 c0 c1 h e (by rcases ha with rfl | rfl <;> decide) (by rcases hb with rfl | rfl <;> decide)
  · exact multiples_some a b c w a0 a1 b0 b1 c0 c1 h (Int.gcd a b) e (by omega) g2 gcd_left gcd_right (third_cases a b c) (mult_cases a b)
end Go.Proofs.YtdibcmcjnhhbgaaDoor.NumW
