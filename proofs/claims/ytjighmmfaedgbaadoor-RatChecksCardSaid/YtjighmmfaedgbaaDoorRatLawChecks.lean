/-
  The walk of RatChecks.
-/
import Derived.Test.YtjighmmfaedgbaaDoorRatAwake
import Derived.Test.YtjighmmfaedgbaaDoorRatLawM
namespace Go.Proofs.YtjighmmfaedgbaaDoor.RatW
open Go Go.RowKit Go.Proofs.YtjighmmfaedgbaaDoor.RatM

set_option maxRecDepth 100000 in
set_option maxHeartbeats 32000000 in
theorem ratChecks_any (a b : Int) (w : World) (a0 : -9223372036854775808 ≤ a) (a1 : a ≤ 9223372036854775807) (b0 : -9223372036854775808 ≤ b) (b1 : b ≤ 9223372036854775807) (ht : Tab w) :
    Calls Tryd.prog 4 #[rv a b] w (tBool w true) := by
  have HT := Lib.hid ht
  clear ht
  obtain ⟨v, hv⟩ : ∃ v, validS a b = v := ⟨_, rfl⟩
  have CA : ∀ w, Calls Tryd.prog 15 #[rv a b] w fun e w' => e = .returned (.bool v) ∧ Below w.heap.size w w' := fun w => by
    have q := validCode a b w a0 a1 b0 b1; rw [hv] at q; exact q
  have CR : ∀ w, Calls Tryd.prog 16 #[rv a b] w fun e w' => e = .returned (.bool v) ∧ Below w.heap.size w w' := fun w => by
    have q := validRef_any a b w a0 a1 b0 b1; rw [hv] at q; exact q
  have CA := Lib.hid CA
  have CR := Lib.hid CR
  clear hv
  obtain ⟨W0, hW0⟩ : ∃ W0, (w.alloc (.cells #[.int .i64 a, .int .i64 b] 23)) = W0 := ⟨_, rfl⟩
  have P0 : Hid (Two W0 w.heap.size (.int .i64 a) (.int .i64 b)) := Lib.hid (by rw [← hW0]; exact Two.new _ _ _ _)
  have B0 : Hid (Below w.heap.size w W0) := Lib.hid (by rw [← hW0]; exact (Below.refl _ _).alloc (Nat.le_refl _) _)
  have hz0 : w.heap.size < W0.heap.size := P0.out.lt
  have HW := Lib.hid hW0
  clear hW0
  have D0 := P0.out
  go_enter Tryd.func4, Tryd.ntmps4
  go_wp2
  rw [HW.out]
  go_region_held3 (fun w' => w'.cell? ⟨w.heap.size, 0, none⟩ = some (.int .i64 a) ∧ w'.cell? ⟨w.heap.size, 1, none⟩ = some (.int .i64 b)) (first | assumption | exact ⟨D0.drew.c0, D0.drew.c1⟩ | fail)
    (first
      | (go_at_call 15; ((with_reducible refine (CA.out _).mono ?_); rintro e wx ⟨rfl, hb⟩; have HX : Hid (Below W0.heap.size W0 wx) := Lib.hid (by first | exact below_drew hb | exact Below.then_ HX.out hb); have X0 := P0.out.stay HX.out; have K : wx.cell? ⟨w.heap.size, 0, none⟩ = some (.int .i64 a) ∧ wx.cell? ⟨w.heap.size, 1, none⟩ = some (.int .i64 b) := ⟨X0.c0, X0.c1⟩; clear hb))
      | (go_at_call 16; ((with_reducible refine (CR.out _).mono ?_); rintro e wx ⟨rfl, hb⟩; have HX : Hid (Below W0.heap.size W0 wx) := Lib.hid (by first | exact below_drew hb | exact Below.then_ HX.out hb); have X0 := P0.out.stay HX.out; have K : wx.cell? ⟨w.heap.size, 0, none⟩ = some (.int .i64 a) ∧ wx.cell? ⟨w.heap.size, 1, none⟩ = some (.int .i64 b) := ⟨X0.c0, X0.c1⟩; clear hb))
      | (go_at_call 14; ((with_reducible refine (awake_any _ ((HT.out.later B0.out).later HX.out)).mono ?_); rintro e wx ⟨rfl, hb⟩; have HX : Hid (Below W0.heap.size W0 wx) := Lib.hid (by first | exact below_drew hb | exact Below.then_ HX.out hb); have X0 := P0.out.stay HX.out; have K : wx.cell? ⟨w.heap.size, 0, none⟩ = some (.int .i64 a) ∧ wx.cell? ⟨w.heap.size, 1, none⟩ = some (.int .i64 b) := ⟨X0.c0, X0.c1⟩; clear hb)))
  all_goals
    go_wp2
    go_ret
    exact ⟨rfl, B0.out.trans (HX.out.mono B0.out.size)⟩
end Go.Proofs.YtjighmmfaedgbaaDoor.RatW
