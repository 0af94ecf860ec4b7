/-
  The walk of RatFormats.
-/
import Derived.Test.YtjighmmfaedgbaaDoorRatBack
import Derived.Test.YtjighmmfaedgbaaDoorRatFmtR
import Derived.Test.YtjighmmfaedgbaaDoorRatAwake
namespace Go.Proofs.YtjighmmfaedgbaaDoor.RatW
open Go Go.RowKit Go.Proofs.YtjighmmfaedgbaaDoor.RatM

set_option maxRecDepth 100000 in
set_option maxHeartbeats 8000000 in
theorem ratFormats_no (a b : Int) (w : World) (a0 : -9223372036854775808 ≤ a) (a1 : a ≤ 9223372036854775807) (b0 : -9223372036854775808 ≤ b) (b1 : b ≤ 9223372036854775807) (ht : Tab2 w) (hv : validS a b = false) :
    Calls Tryd.prog 10 #[rv a b] w (tBool w true) := by
  have HT := Lib.hid ht
  clear ht
  have hF : bs (fmtS a b) = ⟨#[]⟩ := by rw [fmt_no hv]
  have CF : ∀ w, Tab w → Calls Tryd.prog 30 #[rv a b] w fun e w' => e = .returned (.string ⟨#[]⟩) ∧ Below w.heap.size w w' := fun w h => by
    have q := formatCode a b w a0 a1 b0 b1 h
    unfold tStr at q
    rw [hF] at q
    exact q
  have CR : ∀ w, Calls Tryd.prog 31 #[rv a b] w fun e w' => e = .returned (.string ⟨#[]⟩) ∧ Below w.heap.size w w' := fun w => by
    have q := formatRef a b w a0 a1 b0 b1
    unfold tStr at q
    rw [hF] at q
    exact q
  have CV : ∀ w, Calls Tryd.prog 16 #[rv a b] w fun e w' => e = .returned (.bool false) ∧ Below w.heap.size w w' := fun w => by
    have q := validRef_any a b w a0 a1 b0 b1
    rw [hv] at q
    exact q
  have CF := Lib.hid CF
  have CR := Lib.hid CR
  have CV := Lib.hid CV
  clear hF hv
  obtain ⟨W0, hW0⟩ : ∃ W0, w.alloc (.cells #[.int .i64 a, .int .i64 b] 23) = W0 := ⟨_, rfl⟩
  have P0 : Hid (Two W0 w.heap.size (.int .i64 a) (.int .i64 b)) := Lib.hid (by rw [← hW0]; exact Two.new _ _ _ _)
  have B0 : Hid (Below w.heap.size w W0) := Lib.hid (by rw [← hW0]; exact (Below.refl _ _).alloc (Nat.le_refl _) _)
  have HW := Lib.hid hW0
  clear hW0
  go_enter Tryd.func10, Tryd.ntmps10
  go_wp2_with (first
    | (rw [HW.out]; (go_at_call 30; ((with_reducible refine (CF.out _ (HT.out.later B0.out).tab).mono ?_); rintro e w1 ⟨rfl, hb⟩; have B1 := Lib.hid (Below.then_ B0.out hb); have P0 := Lib.hid (P0.out.stay hb); have o0 := P0.out.c0; have o1 := P0.out.c1; have o2 := P0.out.lt; clear hb)))
    | (go_at_call 31; ((with_reducible refine (CR.out _).mono ?_); rintro e w2 ⟨rfl, hb⟩; have B2 := Lib.hid (Below.then_ B1.out hb); have P0 := Lib.hid (P0.out.stay hb); clear o0 o1 o2; have o0 := P0.out.c0; have o1 := P0.out.c1; have o2 := P0.out.lt; clear hb))
    | (go_at_call 16; ((with_reducible refine (CV.out _).mono ?_); rintro e w3 ⟨rfl, hb⟩; have B3 := Lib.hid (Below.then_ B2.out hb); have P0 := Lib.hid (P0.out.stay hb); clear o0 o1 o2; have o0 := P0.out.c0; have o1 := P0.out.c1; have o2 := P0.out.lt; clear hb))
    | (go_at_call 14; ((with_reducible refine (awake_any _ (HT.out.later B3.out).tab).mono ?_); rintro e w5 ⟨rfl, hb⟩; have B5 := Lib.hid (Below.then_ B3.out hb); clear hb)))
  go_ret
  exact ⟨rfl, B5.out⟩
set_option maxRecDepth 100000 in
set_option maxHeartbeats 8000000 in
theorem ratFormats_yes (a b : Int) (w : World) (a0 : -9223372036854775808 ≤ a) (a1 : a ≤ 9223372036854775807) (b0 : -9223372036854775808 ≤ b) (b1 : b ≤ 9223372036854775807) (ht : Tab2 w) (hv : validS a b = true) :
    Calls Tryd.prog 10 #[rv a b] w (tBool w true) := by
  have HT := Lib.hid ht
  clear ht
  have hp := par_fmt hv ⟨a0, a1⟩ ⟨b0, b1⟩
  have hz := fmt_size (a := a) (b := b) ⟨a0, a1⟩ ⟨b0, b1⟩
  obtain ⟨F, hF⟩ : ∃ F, bs (fmtS a b) = F := ⟨_, rfl⟩
  rw [hF] at hz
  have CF : ∀ w, Tab w → Calls Tryd.prog 30 #[rv a b] w fun e w' => e = .returned (.string F) ∧ Below w.heap.size w w' := fun w h => by
    have q := formatCode a b w a0 a1 b0 b1 h
    unfold tStr at q
    rw [hF] at q
    exact q
  have CR : ∀ w, Calls Tryd.prog 31 #[rv a b] w fun e w' => e = .returned (.string F) ∧ Below w.heap.size w w' := fun w => by
    have q := formatRef a b w a0 a1 b0 b1
    unfold tStr at q
    rw [hF] at q
    exact q
  have CV : ∀ w, Calls Tryd.prog 16 #[rv a b] w fun e w' => e = .returned (.bool true) ∧ Below w.heap.size w w' := fun w => by
    have q := validRef_any a b w a0 a1 b0 b1
    rw [hv] at q
    exact q
  have CP : ∀ w, Tab2 w → Calls Tryd.prog 32 #[.string F] w fun e w' => e = .returned (.tuple #[.agg #[.int .i64 a, .int .i64 b], .int .i64 0]) ∧ Below w.heap.size w w' := fun w h => by
    have q := parseCode F w (by omega) h
    rw [show F.data.toList = fmtS a b by rw [← hF], hp] at q
    exact q
  have CP := Lib.hid CP
  have CF := Lib.hid CF
  have CR := Lib.hid CR
  have CV := Lib.hid CV
  clear hF hv hp hz
  obtain ⟨W0, hW0⟩ : ∃ W0, w.alloc (.cells #[.int .i64 a, .int .i64 b] 23) = W0 := ⟨_, rfl⟩
  have P0 : Hid (Two W0 w.heap.size (.int .i64 a) (.int .i64 b)) := Lib.hid (by rw [← hW0]; exact Two.new _ _ _ _)
  have B0 : Hid (Below w.heap.size w W0) := Lib.hid (by rw [← hW0]; exact (Below.refl _ _).alloc (Nat.le_refl _) _)
  have HW := Lib.hid hW0
  clear hW0
  go_enter Tryd.func10, Tryd.ntmps10
  go_wp2_with (first
    | (rw [HW.out]; (go_at_call 30; ((with_reducible refine (CF.out _ (HT.out.later B0.out).tab).mono ?_); rintro e w1 ⟨rfl, hb⟩; have B1 := Lib.hid (Below.then_ B0.out hb); have P0 := Lib.hid (P0.out.stay hb); have o0 := P0.out.c0; have o1 := P0.out.c1; have o2 := P0.out.lt; clear hb)))
    | (go_at_call 31; ((with_reducible refine (CR.out _).mono ?_); rintro e w2 ⟨rfl, hb⟩; have B2 := Lib.hid (Below.then_ B1.out hb); have P0 := Lib.hid (P0.out.stay hb); clear o0 o1 o2; have o0 := P0.out.c0; have o1 := P0.out.c1; have o2 := P0.out.lt; clear hb))
    | (go_at_call 16; ((with_reducible refine (CV.out _).mono ?_); rintro e w3 ⟨rfl, hb⟩; have B3 := Lib.hid (Below.then_ B2.out hb); have P0 := Lib.hid (P0.out.stay hb); clear o0 o1 o2; have o0 := P0.out.c0; have o1 := P0.out.c1; have o2 := P0.out.lt; clear hb))
    | (go_at_call 32; ((with_reducible refine (CP.out _ (HT.out.later B3.out)).mono ?_); rintro e w4 ⟨rfl, hb⟩; have B4 := Lib.hid (Below.then_ B3.out hb); have P0 := Lib.hid (P0.out.stay hb); clear o0 o1 o2; have o0 := P0.out.c0; have o1 := P0.out.c1; have o2 := P0.out.lt; clear hb))
    | (go_at_call 14; ((with_reducible refine (awake_any _ ((HT.out.later B4.out).tab.later ((Below.refl _ _).alloc (Nat.le_refl _) _))).mono ?_); rintro e w5 ⟨rfl, hb⟩; have B5 := Lib.hid (Below.then_ B4.out (below_new hb)); clear hb)))
  go_ret
  exact ⟨rfl, B5.out⟩
theorem ratFormats_any (a b : Int) (w : World) (a0 : -9223372036854775808 ≤ a) (a1 : a ≤ 9223372036854775807) (b0 : -9223372036854775808 ≤ b) (b1 : b ≤ 9223372036854775807) (ht : Tab2 w) :
    Calls Tryd.prog 10 #[rv a b] w (tBool w true) := by
  cases hv : validS a b
  · exact ratFormats_no a b w a0 a1 b0 b1 ht hv
  · exact ratFormats_yes a b w a0 a1 b0 b1 ht hv
end Go.Proofs.YtjighmmfaedgbaaDoor.RatW
