/-
  Each law of this stage, walked: whatever the arguments, the call returns true, in a world in which nothing that was there has turned.
-/
import Derived.Test.YtdibcmcjnhhbgaaDoorNumAwake
import Derived.Test.YtdibcmcjnhhbgaaDoorNumFacts
namespace Go.Proofs.YtdibcmcjnhhbgaaDoor.NumW
open Go Go.RowKit Go.Proofs.YtdibcmcjnhhbgaaDoor.NumM
set_option maxHeartbeats 400000 in
theorem quotients_any (a b : Int) (w : World) (a0 : -9223372036854775808 ≤ a) (a1 : a ≤ 9223372036854775807) (b0 : -9223372036854775808 ≤ b) (b1 : b ≤ 9223372036854775807) (h : Tab w) :
    Calls Tryd.prog 4 #[.int .i64 a, .int .i64 b] w fun e w' => e = .returned (.bool true) ∧ Below w.heap.size w w' := by
  have T := Lib.hid h
  clear h
  go_enter Tryd.func4, Tryd.ntmps4
  go_wp2_with (first | (go_at_call 17; refine (divCode_any _ _ _ (by omega) (by omega) (by omega) (by omega)).mono ?_; rintro e w' ⟨rfl, rfl⟩) | (go_at_call 18; refine (divRef_any _ _ _ (by omega) (by omega) (by omega) (by omega)).mono ?_; rintro e w' ⟨rfl, rfl⟩) | (go_at_call 16; fail))
  refine (awake_any _ ?_).mono ?_
  · exact T.out
  rintro e W1 ⟨rfl, hb1⟩
  have HB1 := Lib.hid hb1
  clear hb1
  go_wp2_with fail
  go_ret
  exact ⟨rfl, HB1.out⟩

set_option maxHeartbeats 400000 in
theorem sums_any (a b : Int) (w : World) (a0 : -9223372036854775808 ≤ a) (a1 : a ≤ 9223372036854775807) (b0 : -9223372036854775808 ≤ b) (b1 : b ≤ 9223372036854775807) (h : Tab w) :
    Calls Tryd.prog 3 #[.int .i64 a, .int .i64 b] w fun e w' => e = .returned (.bool true) ∧ Below w.heap.size w w' := by
  have T := Lib.hid h
  clear h
  go_enter Tryd.func3, Tryd.ntmps3
  go_wp2_with (first | (go_at_call 10; refine (addCode_any _ _ _ (by omega) (by omega) (by omega) (by omega)).mono ?_; rintro e w' ⟨rfl, rfl⟩) | (go_at_call 11; refine (addRef_any _ _ _ (by omega) (by omega) (by omega) (by omega)).mono ?_; rintro e w' ⟨rfl, rfl⟩) | (go_at_call 12; refine (subCode_any _ _ _ (by omega) (by omega) (by omega) (by omega)).mono ?_; rintro e w' ⟨rfl, rfl⟩) | (go_at_call 13; refine (subRef_any _ _ _ (by omega) (by omega) (by omega) (by omega)).mono ?_; rintro e w' ⟨rfl, rfl⟩) | (go_at_call 14; refine (mulCode_any _ _ _ (by omega) (by omega) (by omega) (by omega)).mono ?_; rintro e w' ⟨rfl, rfl⟩) | (go_at_call 15; refine (mulRef_any _ _ _ (by omega) (by omega) (by omega) (by omega)).mono ?_; rintro e w' ⟨rfl, rfl⟩) | (go_at_call 16; fail))
  refine (awake_any _ ?_).mono ?_
  · exact T.out
  rintro e W1 ⟨rfl, hb1⟩
  have HB1 := Lib.hid hb1
  clear hb1
  go_wp2_with fail
  go_ret
  exact ⟨rfl, HB1.out⟩
theorem later_drewn {w W1 : World} {n : Nat} (h : Below (w.drewN n).heap.size (w.drewN n) W1) : Below w.heap.size w W1 := (below_drewN w n).trans h
set_option maxHeartbeats 400000 in
theorem divisors_any (a b : Int) (w : World) (a0 : -9223372036854775808 ≤ a) (a1 : a ≤ 9223372036854775807) (b0 : -9223372036854775808 ≤ b) (b1 : b ≤ 9223372036854775807) (h : Tab w) :
    Calls Tryd.prog 7 #[.int .i64 a, .int .i64 b] w fun e w' => e = .returned (.bool true) ∧ Below w.heap.size w w' := by
  have T := Lib.hid h
  clear h
  go_enter Tryd.func7, Tryd.ntmps7
  go_wp2_with (first | (go_at_call 21; refine (lcmCode_any _ _ _ (by omega) (by omega) (by omega) (by omega)).mono ?_; rintro e w' ⟨rfl, nd, rfl⟩) | (go_at_call 22; refine (lcmRef_any _ _ _ (by omega) (by omega) (by omega) (by omega)).mono ?_; rintro e w' ⟨rfl, nd, rfl⟩) | (go_at_call 23; refine (gcdCode_any _ _ _ (by omega) (by omega) (by omega) (by omega)).mono ?_; rintro e w' ⟨rfl, nd, rfl⟩) | (go_at_call 24; refine (gcdRef_any _ _ _ (by omega) (by omega) (by omega) (by omega)).mono ?_; rintro e w' ⟨rfl, rfl⟩) | (go_at_call 16; fail))
  refine (awake_any _ ?_).mono ?_
  · first | exact T.out | exact T.out.later (below_drewN _ _) | exact (T.out.later (below_drewN _ _)).later (below_drewN _ _) | exact ((T.out.later (below_drewN _ _)).later (below_drewN _ _)).later (below_drewN _ _)
  rintro e W1 ⟨rfl, hb1⟩
  have HB1 := Lib.hid hb1
  clear hb1
  go_wp2_with fail
  go_ret
  exact ⟨rfl, later_drewn HB1.out⟩

set_option maxHeartbeats 400000 in
theorem divides_any (a b : Int) (w : World) (a0 : -9223372036854775808 ≤ a) (a1 : a ≤ 9223372036854775807) (b0 : -9223372036854775808 ≤ b) (b1 : b ≤ 9223372036854775807) (h : Tab w) :
    Calls Tryd.prog 5 #[.int .i64 a, .int .i64 b] w fun e w' => e = .returned (.bool true) ∧ Below w.heap.size w w' := by
  have T := Lib.hid h
  clear h
  by_cases h0 : b = 0
  · subst h0
    have e1 : (divS a 0).1 = 0 := rfl
    have e2 : (divS a 0).2 = 4 := rfl
    go_enter Tryd.func5, Tryd.ntmps5
    go_wp2_with (first | (go_at_call 17; refine (divCode_any _ _ _ (by omega) (by omega) (by omega) (by omega)).mono ?_; rintro e w' ⟨rfl, rfl⟩) | (go_at_call 16; fail))
    refine (awake_any _ ?_).mono ?_
    · exact T.out
    rintro e W1 ⟨rfl, hb1⟩
    have HB1 := Lib.hid hb1
    clear hb1
    go_wp2_with fail
    go_ret
    exact ⟨rfl, HB1.out⟩

  have h0' : (b == 0) = false := by simpa using h0
  by_cases h1 : b = -1
  · subst h1
    by_cases h2 : a = -9223372036854775808
    · subst h2
      have e1 : (divS (-9223372036854775808) (-1)).1 = 0 := rfl
      have e2 : (divS (-9223372036854775808) (-1)).2 = 3 := rfl
      go_enter Tryd.func5, Tryd.ntmps5
      go_wp2_with (first | (go_at_call 17; refine (divCode_any _ _ _ (by omega) (by omega) (by omega) (by omega)).mono ?_; rintro e w' ⟨rfl, rfl⟩) | (go_at_call 16; fail))
      refine (awake_any _ ?_).mono ?_
      · exact T.out
      rintro e W1 ⟨rfl, hb1⟩
      have HB1 := Lib.hid hb1
      clear hb1
      go_wp2_with fail
      go_ret
      exact ⟨rfl, HB1.out⟩

    · have e0 : divS a (-1) = (-a, 0) := lim_ok (okI_iff.2 ⟨by omega, by omega⟩)
      have e1 : (divS a (-1)).1 = -a := by rw [e0]
      have e2 : (divS a (-1)).2 = 0 := by rw [e0]
      have e3 : wrap64 (a - wrap64 (-a * -1)) = 0 := by rw [wrap_rem (by omega) (by omega)]; omega
      clear e0
      go_enter Tryd.func5, Tryd.ntmps5
      go_wp2_with (first | (go_at_call 17; refine (divCode_any _ _ _ (by omega) (by omega) (by omega) (by omega)).mono ?_; rintro e w' ⟨rfl, rfl⟩) | (go_at_call 16; fail))
      refine (awake_any _ ?_).mono ?_
      · exact T.out
      rintro e W1 ⟨rfl, hb1⟩
      have HB1 := Lib.hid hb1
      clear hb1
      go_wp2_with fail
      go_ret
      exact ⟨rfl, HB1.out⟩

  have e0 : divS a b = (quoS a b, 0) := by rw [divS, if_neg h0, if_neg h1]
  have e1 : (divS a b).1 = quoS a b := by rw [e0]
  have e2 : (divS a b).2 = 0 := by rw [e0]
  have hr := quoS_rem (a := a) h0
  obtain ⟨r, hre⟩ : ∃ r, a - quoS a b * b = r := ⟨_, rfl⟩
  rw [hre] at hr
  have e3 : wrap64 (a - wrap64 (quoS a b * b)) = r := by rw [wrap_rem (by omega) (by omega), hre]
  clear e0 hre
  by_cases hp : 0 < b
  · have r0 := (hr.1 hp).1
    have r1 := (hr.1 hp).2
    clear hr
    go_enter Tryd.func5, Tryd.ntmps5
    go_wp2_with (first | (go_at_call 17; refine (divCode_any _ _ _ (by omega) (by omega) (by omega) (by omega)).mono ?_; rintro e w' ⟨rfl, rfl⟩) | (go_at_call 16; fail))
    refine (awake_any _ ?_).mono ?_
    · exact T.out
    rintro e W1 ⟨rfl, hb1⟩
    have HB1 := Lib.hid hb1
    clear hb1
    go_wp2_with fail
    go_ret
    exact ⟨rfl, HB1.out⟩

  · have r0 := (hr.2 (by omega)).1
    have r1 := (hr.2 (by omega)).2
    clear hr
    go_enter Tryd.func5, Tryd.ntmps5
    go_wp2_with (first | (go_at_call 17; refine (divCode_any _ _ _ (by omega) (by omega) (by omega) (by omega)).mono ?_; rintro e w' ⟨rfl, rfl⟩) | (go_at_call 16; fail))
    refine (awake_any _ ?_).mono ?_
    · exact T.out
    rintro e W1 ⟨rfl, hb1⟩
    have HB1 := Lib.hid hb1
    clear hb1
    go_wp2_with fail
    go_ret
    exact ⟨rfl, HB1.out⟩

set_option maxHeartbeats 400000 in
theorem powers_any (a n : Int) (w : World) (a0 : -9223372036854775808 ≤ a) (a1 : a ≤ 9223372036854775807) (n0 : -9223372036854775808 ≤ n) (n1 : n ≤ 9223372036854775807) (h : Tab w) :
    Calls Tryd.prog 6 #[.int .i64 a, .int .i64 n] w fun e w' => e = .returned (.bool true) ∧ Below w.heap.size w w' := by
  have T := Lib.hid h
  clear h
  have i0 := (powS_in a n).1
  have i1 := (powS_in a n).2
  by_cases he : (powS a n).2 = 0
  · have E1 : (powS a (n + 1)).1 = (lim ((powS a n).1 * a)).1 := by rw [pow_step he]
    have E2 : (powS a (n + 1)).2 = (lim ((powS a n).1 * a)).2 := by rw [pow_step he]
    by_cases hn : n = 9223372036854775807
    · have hn' : (n == 9223372036854775807) = true := by simpa using hn
      clear hn E1 E2
      go_enter Tryd.func6, Tryd.ntmps6
      go_wp2_with (first | (go_at_call 19; refine (powCode_any _ _ _ (by omega) (by omega) (by omega) (by omega)).mono ?_; rintro e w' ⟨rfl, rfl⟩) | (go_at_call 20; refine (powRef_any _ _ _ (by omega) (by omega) (by omega) (by omega)).mono ?_; rintro e w' ⟨rfl, rfl⟩) | (go_at_call 16; fail))
      refine (awake_any _ ?_).mono ?_
      · exact T.out
      rintro e W1 ⟨rfl, hb1⟩
      have HB1 := Lib.hid hb1
      clear hb1
      go_wp2_with fail
      go_ret
      exact ⟨rfl, HB1.out⟩

    · have hn' : (n == 9223372036854775807) = false := by simpa using hn
      go_enter Tryd.func6, Tryd.ntmps6
      go_wp2_with (first | (go_at_call 19; refine (powCode_any _ _ _ (by omega) (by omega) (by omega) (by omega)).mono ?_; rintro e w' ⟨rfl, rfl⟩) | (go_at_call 20; refine (powRef_any _ _ _ (by omega) (by omega) (by omega) (by omega)).mono ?_; rintro e w' ⟨rfl, rfl⟩) | (go_at_call 14; refine (mulCode_any _ _ _ (by omega) (by omega) (by omega) (by omega)).mono ?_; rintro e w' ⟨rfl, rfl⟩) | (go_at_call 16; fail))
      refine (awake_any _ ?_).mono ?_
      · exact T.out
      rintro e W1 ⟨rfl, hb1⟩
      have HB1 := Lib.hid hb1
      clear hb1
      go_wp2_with fail
      go_ret
      exact ⟨rfl, HB1.out⟩

  · have he' : ((powS a n).2 == 0) = false := by simpa using he
    go_enter Tryd.func6, Tryd.ntmps6
    go_wp2_with (first | (go_at_call 19; refine (powCode_any _ _ _ (by omega) (by omega) (by omega) (by omega)).mono ?_; rintro e w' ⟨rfl, rfl⟩) | (go_at_call 20; refine (powRef_any _ _ _ (by omega) (by omega) (by omega) (by omega)).mono ?_; rintro e w' ⟨rfl, rfl⟩) | (go_at_call 16; fail))
    refine (awake_any _ ?_).mono ?_
    · exact T.out
    rintro e W1 ⟨rfl, hb1⟩
    have HB1 := Lib.hid hb1
    clear hb1
    go_wp2_with fail
    go_ret
    exact ⟨rfl, HB1.out⟩

end Go.Proofs.YtdibcmcjnhhbgaaDoor.NumW
