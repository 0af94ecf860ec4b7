/-
  The laws RngBelow and RngShuffle, walked.
-/
import Derived.Test.YtahjgepjhihhjaaRngLaws
namespace Go.Proofs.Ytahjgepjhihhjaa.RngW
open Go Go.RowKit Go.Proofs.Ytahjgepjhihhjaa.HashM Go.Proofs.Ytahjgepjhihhjaa.HashW Go.Proofs.Ytahjgepjhihhjaa.RngM

set_option maxRecDepth 100000 in
set_option maxHeartbeats 8000000 in
theorem below_law (k c : UInt64) (n : Int) (w : World) : Calls Try.prog 4 #[rv k c, .int .i64 n] w (tBool w true) := by
  have h1 := fun w => belowCode k c n w
  have h2 := fun w => belowRef k c n w
  by_cases hn : 1 ≤ n ∧ n ≤ 4611686018427387904
  · obtain ⟨m, rfl⟩ := Int.eq_ofNat_of_zero_le (show 0 ≤ n by omega)
    rw [belR_yes (by omega) (by omega)] at h1 h2
    have hx : belX k c m < m := Nat.mod_lt _ (by omega)
    generalize belX k c m = x at *
    generalize belC k c m = y at *
    have H1 := Lib.hid h1
    have H2 := Lib.hid h2
    have hx' : (x : Int) < m := by omega
    clear h1 h2 hx
    go_enter Try.func4, Try.ntmps4
    go_wp2_with (first
      | (go_at_call 19; ((with_reducible refine (H1.out _).mono ?_); rintro e w1 ⟨rfl, hq⟩; have T1 := Lib.hid (two_new hq); obtain ⟨_, c0, c1, _, _⟩ := T1.out; have B1 := Lib.hid (below_new hq); clear hq))
      | (go_at_call 20; ((with_reducible refine (H2.out _).mono ?_); rintro e w2 ⟨rfl, hq⟩; have N1 := Lib.hid (two_new hq); obtain ⟨_, c0, c1, _, _⟩ := N1.out; have B2 := Lib.hid (Below.then_ B1.out (below_new hq)); clear hq))
      | (go_at_call 18; ((with_reducible refine (awake_any _).mono ?_); rintro e w3 ⟨rfl, hq⟩; have B3 := Lib.hid (Below.then_ B2.out (below_new hq)); clear hq)))
    go_ret
    exact ⟨rfl, B3.out⟩
  · rw [belR_no hn] at h1 h2
    have H1 := Lib.hid h1
    have H2 := Lib.hid h2
    clear h1 h2 hn
    go_enter Try.func4, Try.ntmps4
    go_wp2_with (first
      | (go_at_call 19; ((with_reducible refine (H1.out _).mono ?_); rintro e w1 ⟨rfl, hq⟩; have T1 := Lib.hid (two_new hq); obtain ⟨_, c0, c1, _, _⟩ := T1.out; have B1 := Lib.hid (below_new hq); clear hq))
      | (go_at_call 20; ((with_reducible refine (H2.out _).mono ?_); rintro e w2 ⟨rfl, hq⟩; have N1 := Lib.hid (two_new hq); obtain ⟨_, c0, c1, _, _⟩ := N1.out; have B2 := Lib.hid (Below.then_ B1.out (below_new hq)); clear hq))
      | (go_at_call 18; ((with_reducible refine (awake_any _).mono ?_); rintro e w3 ⟨rfl, hq⟩; have B3 := Lib.hid (Below.then_ B2.out (below_new hq)); clear hq)))
    go_ret
    exact ⟨rfl, B3.out⟩
set_option maxRecDepth 100000 in
set_option maxHeartbeats 8000000 in
theorem shuffle_law (k c : UInt64) (n : Int) (w : World) : Calls Try.prog 6 #[rv k c, .int .i64 n] w (tBool w true) := by
  by_cases hn : 0 ≤ n ∧ n ≤ 4096
  · obtain ⟨m, rfl⟩ := Int.eq_ofNat_of_zero_le hn.1
    have hm : m ≤ 4096 := by omega
    have h1 := fun w => shufCode k c m w hm
    have h2 := fun w => shufRef k c m w hm
    generalize shf (bel k) (m - 1) id c = p at *
    obtain ⟨f, y⟩ := p
    dsimp only at h1 h2
    have H1 := Lib.hid h1
    have H2 := Lib.hid h2
    clear h1 h2 hn
    go_enter Try.func6, Try.ntmps6
    go_wp2_with (first
      | (go_at_call 23; ((with_reducible refine (H1.out _).mono ?_); rintro e w1 ⟨g1, rfl, r1, z1, hq⟩; have T1 := Lib.hid (two_new hq); have R1 := Lib.hid r1; obtain ⟨_, c0, c1, _, _⟩ := T1.out; have B1 := Lib.hid (below_new hq); clear hq r1 z1))
      | (go_at_call 24; ((with_reducible refine (H2.out _).mono ?_); rintro e w2 ⟨g2, rfl, r2, z2, hq⟩; have N1 := Lib.hid (two_new hq); have R1 := Lib.hid ((R1.out.alloc (.cells #[.int .u64 (V k), .int .u64 (V y)] 24)).of_block (hq.block _ (R1.out.alloc (.cells #[.int .u64 (V k), .int .u64 (V y)] 24)).lt)); have R2 := Lib.hid r2; obtain ⟨_, c0, c1, _, _⟩ := N1.out; have B2 := Lib.hid (Below.then_ B1.out (below_new hq)); clear hq r2 z2))
      | (go_at_call 25; ((with_reducible refine (same_any f m g1 g2 _ hm (R1.out.alloc _) (R2.out.alloc _)).mono ?_); rintro e w3 ⟨rfl, hq⟩; have N1 := Lib.hid ((N1.out.alloc (.cells #[.int .u64 (V k), .int .u64 (V y)] 24)).stay hq); have N2 := Lib.hid (two_new hq); obtain ⟨_, c0, c1, _, _⟩ := N1.out; obtain ⟨_, d0, d1, _, _⟩ := N2.out; have B3 := Lib.hid (Below.then_ B2.out (below_new hq)); clear hq))
      | (go_at_call 18; ((with_reducible refine (awake_any _).mono ?_); rintro e w4 ⟨rfl, hq⟩; have B4 := Lib.hid (Below.then_ B3.out hq); clear hq)))
    go_ret
    exact ⟨rfl, B4.out⟩
  · have H1 := Lib.hid (fun w => shufNoCode k c n w hn)
    have H2 := Lib.hid (fun w => shufNoRef k c n w hn)
    clear hn
    go_enter Try.func6, Try.ntmps6
    go_wp2_with (first
      | (go_at_call 23; ((with_reducible refine (H1.out _).mono ?_); rintro e w1 ⟨rfl, hq⟩; have T1 := Lib.hid (two_new hq); obtain ⟨_, c0, c1, _, _⟩ := T1.out; have B1 := Lib.hid (below_new hq); clear hq))
      | (go_at_call 24; ((with_reducible refine (H2.out _).mono ?_); rintro e w2 ⟨rfl, hq⟩; have N1 := Lib.hid (two_new hq); obtain ⟨_, c0, c1, _, _⟩ := N1.out; have B2 := Lib.hid (Below.then_ B1.out (below_new hq)); clear hq))
      | (go_at_call 25; ((with_reducible refine (same_nil _).mono ?_); rintro e w3 ⟨rfl, hq⟩; have N1 := Lib.hid ((N1.out.alloc (.cells #[.int .u64 (V 0), .int .u64 (V 0)] 24)).stay hq); have N2 := Lib.hid (two_new hq); obtain ⟨_, c0, c1, _, _⟩ := N1.out; obtain ⟨_, d0, d1, _, _⟩ := N2.out; have B3 := Lib.hid (Below.then_ B2.out (below_new hq)); clear hq))
      | (go_at_call 18; ((with_reducible refine (awake_any _).mono ?_); rintro e w4 ⟨rfl, hq⟩; have B4 := Lib.hid (Below.then_ B3.out hq); clear hq)))
    go_ret
    exact ⟨rfl, B4.out⟩
theorem below_any (k c : UInt64) (n : Int) (w : World) (_ : -9223372036854775808 ≤ n) (_ : n ≤ 9223372036854775807) : Calls Try.prog 4 #[rv k c, .int .i64 n] w (tBool w true) := below_law k c n w
theorem shuffle_any (k c : UInt64) (n : Int) (w : World) (_ : -9223372036854775808 ≤ n) (_ : n ≤ 9223372036854775807) : Calls Try.prog 6 #[rv k c, .int .i64 n] w (tBool w true) := shuffle_law k c n w
end Go.Proofs.Ytahjgepjhihhjaa.RngW
