/-
  The laws RngDifferent, RngBelow and RngShuffle, walked.
-/
import Derived.Test.YtahjgepjhihhjaaRngAwake
namespace Go.Proofs.Ytahjgepjhihhjaa.RngW
open Go Go.RowKit Go.Proofs.Ytahjgepjhihhjaa.HashM Go.Proofs.Ytahjgepjhihhjaa.HashW Go.Proofs.Ytahjgepjhihhjaa.RngM

theorem u64_of {x : Int} (h : (Lit.int .u64 x).wf = true) : ∃ a : UInt64, x = V a := by
  have e1 : IntKind.u64.min = 0 := rfl
  have e2 : IntKind.u64.max = 18446744073709551615 := rfl
  simp [Lit.wf, e1, e2] at h
  refine ⟨UInt64.ofNat x.toNat, ?_⟩
  unfold V
  rw [UInt64.toNat_ofNat_of_lt' (by show _ < 2 ^ 64; omega)]
  omega
theorem u8_of {x : Int} (h : (Lit.int .u8 x).wf = true) : ∃ a : UInt8, x = (a.toNat : Int) := by
  have e1 : IntKind.u8.min = 0 := rfl
  have e2 : IntKind.u8.max = 255 := rfl
  simp [Lit.wf, e1, e2] at h
  refine ⟨UInt8.ofNat x.toNat, ?_⟩
  rw [UInt8.toNat_ofNat_of_lt' (by show _ < 2 ^ 8; omega)]
  omega
theorem V_eq {a b : UInt64} : (V a == V b) = decide (a = b) := by
  by_cases h : a = b
  · subst h; simp
  · have : ¬ V a = V b := fun e => h (V_inj e)
    rw [decide_eq_false h]; simpa using this
set_option maxRecDepth 100000 in
set_option maxHeartbeats 8000000 in
theorem different_any (k c n : UInt64) (w : World) : Calls Try.prog 8 #[rv k c, .int .u64 (V n)] w (tBool w true) := by
  have h1 := fun w => nextCode k c w
  have h2 := fun w => nextCode k n w
  unfold tNx at h1 h2
  have hX : (V (mix k c) == V (mix k n)) = (V c == V n) := by
    rw [V_eq, V_eq]
    congr 1
    exact propext ⟨fun e => mix_inj e, fun e => by rw [e]⟩
  generalize mix k c = X at *
  generalize mix k n = Y at *
  have H1 := Lib.hid h1
  have H2 := Lib.hid h2
  clear h1 h2
  cases hb : (V c == V n)
  all_goals
    rw [hb] at hX
    go_enter Try.func8, Try.ntmps8
    go_wp2_with (first
      | (go_at_call 10; ((with_reducible refine (H1.out _).mono ?_); rintro e w1 ⟨rfl, hq⟩; have T1 := Lib.hid (two_new hq); obtain ⟨_, c0, c1, _, _⟩ := T1.out; have B1 := Lib.hid (below_new hq); clear hq))
      | (go_at_call 10; ((with_reducible refine (H2.out _).mono ?_); rintro e w2 ⟨rfl, hq⟩; have T1 := Lib.hid (T1.out.stay (below_new hq)); obtain ⟨_, c0, c1, _, _⟩ := T1.out; have B2 := Lib.hid (Below.then_ B1.out (below_new hq)); clear hq))
      | (go_at_call 18; ((with_reducible refine (awake_any _).mono ?_); rintro e w3 ⟨rfl, hq⟩; have B3 := Lib.hid (Below.then_ B2.out (below_new hq)); clear hq)))
    go_ret
    exact ⟨rfl, B3.out⟩
end Go.Proofs.Ytahjgepjhihhjaa.RngW
