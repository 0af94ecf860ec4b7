/-
  The walk of RatMuls.
-/
import Derived.Test.YtjighmmfaedgbaaDoorRatAwake
import Derived.Test.YtjighmmfaedgbaaDoorRatLawM
import Derived.Test.YtjighmmfaedgbaaDoorRatCodeD
import Derived.Test.YtjighmmfaedgbaaDoorRatRefD
import Derived.Test.YtjighmmfaedgbaaDoorRatRefM
namespace Go.Proofs.YtjighmmfaedgbaaDoor.RatW
open Go Go.RowKit Go.Proofs.YtjighmmfaedgbaaDoor.RatM

set_option maxRecDepth 100000 in
set_option maxHeartbeats 32000000 in
theorem ratMuls_no (a b c d : Int) (w : World) (a0 : -9223372036854775808 ≤ a) (a1 : a ≤ 9223372036854775807) (b0 : -9223372036854775808 ≤ b) (b1 : b ≤ 9223372036854775807) (c0 : -9223372036854775808 ≤ c) (c1 : c ≤ 9223372036854775807) (d0 : -9223372036854775808 ≤ d) (d1 : d ≤ 9223372036854775807) (ht : Tab w) (x y k : Int) (h : mulS a b c d = (x, y, k)) (hk : ¬ k = 0) :
    Calls Tryd.prog 6 #[rv a b, rv c d] w (tBool w true) := by
  have HT := Lib.hid ht
  clear ht
  obtain ⟨u, v, j, h'⟩ : ∃ u v j, divS a b c d = (u, v, j) := ⟨_, _, _, rfl⟩
  have CMul : ∀ w, Calls Tryd.prog 21 #[rv a b, rv c d] w fun e w' => e = .returned (.tuple #[.agg #[.int .i64 x, .int .i64 y], .int .i64 k]) ∧ Below w.heap.size w w' := fun w => by
    have q := mulCode a b c d w a0 a1 b0 b1 c0 c1 d0 d1; rw [h] at q; exact q
  have RMul : ∀ w, Calls Tryd.prog 22 #[rv a b, rv c d] w fun e w' => e = .returned (.tuple #[.agg #[.int .i64 x, .int .i64 y], .int .i64 k]) ∧ Below w.heap.size w w' := fun w => by
    have q := mulRef_any a b c d w a0 a1 b0 b1 c0 c1 d0 d1; rw [h] at q; exact q
  have CDiv : ∀ w, Calls Tryd.prog 23 #[rv a b, rv c d] w fun e w' => e = .returned (.tuple #[.agg #[.int .i64 u, .int .i64 v], .int .i64 j]) ∧ Below w.heap.size w w' := fun w => by
    have q := divCode a b c d w a0 a1 b0 b1 c0 c1 d0 d1; rw [h'] at q; exact q
  have RDiv : ∀ w, Calls Tryd.prog 24 #[rv a b, rv c d] w fun e w' => e = .returned (.tuple #[.agg #[.int .i64 u, .int .i64 v], .int .i64 j]) ∧ Below w.heap.size w w' := fun w => by
    have q := divRef_any a b c d w a0 a1 b0 b1 c0 c1 d0 d1; rw [h'] at q; exact q
  have CMul := Lib.hid CMul
  have RMul := Lib.hid RMul
  have CDiv := Lib.hid CDiv
  have RDiv := Lib.hid RDiv
  clear h h'
  obtain ⟨W0, hW0⟩ : ∃ W0, ((w.alloc (.cells #[.int .i64 a, .int .i64 b] 23)).alloc (.cells #[.int .i64 c, .int .i64 d] 23)) = W0 := ⟨_, rfl⟩
  have P0 : Hid (Two W0 w.heap.size (.int .i64 a) (.int .i64 b)) := Lib.hid (by rw [← hW0]; exact (Two.new _ _ _ _).alloc _)
  have P1 : Hid (Two W0 (w.heap.size + 1) (.int .i64 c) (.int .i64 d)) := Lib.hid (by rw [← hW0]; exact Two.at_ (by simp) _ _ _)
  have B0 : Hid (Below w.heap.size w W0) := Lib.hid (by rw [← hW0]; exact ((Below.refl _ _).alloc (Nat.le_refl _) _).alloc (by simp) _)
  have hz0 : (w.heap.size + 1) < W0.heap.size := P1.out.lt
  have HW := Lib.hid hW0
  clear hW0
  go_enter Tryd.func6, Tryd.ntmps6
  go_wp2_with (first
    | (rw [HW.out]; (go_at_call 21; ((with_reducible refine (CMul.out _).mono ?_); rintro e w1 ⟨rfl, hb⟩; have hq : Below W0.heap.size W0 w1 := hb; have B1 := Lib.hid (Below.then_ B0.out hq); have P0 := Lib.hid (P0.out.stay hq); have P1 := Lib.hid (P1.out.stay hq); have oP0a := P0.out.c0; have oP0b := P0.out.c1; have oP0c := P0.out.lt; have oP1a := P1.out.c0; have oP1b := P1.out.c1; have oP1c := P1.out.lt; clear hq hb)))
    | (go_at_call 22; ((with_reducible refine (RMul.out _).mono ?_); rintro e w2 ⟨rfl, hb⟩; have hq : Below w1.heap.size w1 w2 := below_new hb; have B2 := Lib.hid (Below.then_ B1.out hq); have P0 := Lib.hid (P0.out.stay hq); have P1 := Lib.hid (P1.out.stay hq); have N1 := Lib.hid (two_new hb); clear oP0a oP0b oP0c oP1a oP1b oP1c; have oP0a := P0.out.c0; have oP0b := P0.out.c1; have oP0c := P0.out.lt; have oP1a := P1.out.c0; have oP1b := P1.out.c1; have oP1c := P1.out.lt; have oN1a := N1.out.c0; have oN1b := N1.out.c1; have oN1c := N1.out.lt; clear hq hb))
    | (go_at_call 23; ((with_reducible refine (CDiv.out _).mono ?_); rintro e w3 ⟨rfl, hb⟩; have hq : Below w2.heap.size w2 w3 := below_new hb; have B3 := Lib.hid (Below.then_ B2.out hq); have P0 := Lib.hid (P0.out.stay hq); have P1 := Lib.hid (P1.out.stay hq); have N1 := Lib.hid (N1.out.stay hq); have N2 := Lib.hid (two_new hb); clear oP0a oP0b oP0c oP1a oP1b oP1c oN1a oN1b oN1c; have oP0a := P0.out.c0; have oP0b := P0.out.c1; have oP0c := P0.out.lt; have oP1a := P1.out.c0; have oP1b := P1.out.c1; have oP1c := P1.out.lt; have oN1a := N1.out.c0; have oN1b := N1.out.c1; have oN1c := N1.out.lt; have oN2a := N2.out.c0; have oN2b := N2.out.c1; have oN2c := N2.out.lt; clear hq hb))
    | (go_at_call 24; ((with_reducible refine (RDiv.out _).mono ?_); rintro e w4 ⟨rfl, hb⟩; have hq : Below w3.heap.size w3 w4 := below_new hb; have B4 := Lib.hid (Below.then_ B3.out hq); have P0 := Lib.hid (P0.out.stay hq); have P1 := Lib.hid (P1.out.stay hq); have N1 := Lib.hid (N1.out.stay hq); have N2 := Lib.hid (N2.out.stay hq); have N3 := Lib.hid (two_new hb); clear oP0a oP0b oP0c oP1a oP1b oP1c oN1a oN1b oN1c oN2a oN2b oN2c; have oP0a := P0.out.c0; have oP0b := P0.out.c1; have oP0c := P0.out.lt; have oP1a := P1.out.c0; have oP1b := P1.out.c1; have oP1c := P1.out.lt; have oN1a := N1.out.c0; have oN1b := N1.out.c1; have oN1c := N1.out.lt; have oN2a := N2.out.c0; have oN2b := N2.out.c1; have oN2c := N2.out.lt; have oN3a := N3.out.c0; have oN3b := N3.out.c1; have oN3c := N3.out.lt; clear hq hb))
    | (go_at_call 14; ((with_reducible refine (awake_any _ (by first | exact HT.out.later B4.out | exact HT.out.later (B4.out.alloc B4.out.size _))).mono ?_); rintro e w5 ⟨rfl, hb⟩; have hq : Below w4.heap.size w4 w5 := below_new hb; have B5 := Lib.hid (Below.then_ B4.out hq); have P0 := Lib.hid (P0.out.stay hq); have P1 := Lib.hid (P1.out.stay hq); have N1 := Lib.hid (N1.out.stay hq); have N2 := Lib.hid (N2.out.stay hq); have N3 := Lib.hid (N3.out.stay hq); have N4 := Lib.hid (two_new hb); clear oP0a oP0b oP0c oP1a oP1b oP1c oN1a oN1b oN1c oN2a oN2b oN2c oN3a oN3b oN3c; have oP0a := P0.out.c0; have oP0b := P0.out.c1; have oP0c := P0.out.lt; have oP1a := P1.out.c0; have oP1b := P1.out.c1; have oP1c := P1.out.lt; have oN1a := N1.out.c0; have oN1b := N1.out.c1; have oN1c := N1.out.lt; have oN2a := N2.out.c0; have oN2b := N2.out.c1; have oN2c := N2.out.lt; have oN3a := N3.out.c0; have oN3b := N3.out.c1; have oN3c := N3.out.lt; have oN4a := N4.out.c0; have oN4b := N4.out.c1; have oN4c := N4.out.lt; clear hq hb)))
  go_ret
  exact ⟨rfl, B5.out⟩
set_option maxRecDepth 100000 in
set_option maxHeartbeats 32000000 in
theorem ratMuls_zero (a b c d : Int) (w : World) (a0 : -9223372036854775808 ≤ a) (a1 : a ≤ 9223372036854775807) (b0 : -9223372036854775808 ≤ b) (b1 : b ≤ 9223372036854775807) (c0 : -9223372036854775808 ≤ c) (c1 : c ≤ 9223372036854775807) (d0 : -9223372036854775808 ≤ d) (d1 : d ≤ 9223372036854775807) (ht : Tab w) (x y : Int) (h : mulS a b c d = (x, y, 0)) (hc : c = 0) :
    Calls Tryd.prog 6 #[rv a b, rv c d] w (tBool w true) := by
  have HT := Lib.hid ht
  clear ht
  obtain ⟨u, v, j, h'⟩ : ∃ u v j, divS a b c d = (u, v, j) := ⟨_, _, _, rfl⟩
  have CMul : ∀ w, Calls Tryd.prog 21 #[rv a b, rv c d] w fun e w' => e = .returned (.tuple #[.agg #[.int .i64 x, .int .i64 y], .int .i64 0]) ∧ Below w.heap.size w w' := fun w => by
    have q := mulCode a b c d w a0 a1 b0 b1 c0 c1 d0 d1; rw [h] at q; exact q
  have RMul : ∀ w, Calls Tryd.prog 22 #[rv a b, rv c d] w fun e w' => e = .returned (.tuple #[.agg #[.int .i64 x, .int .i64 y], .int .i64 0]) ∧ Below w.heap.size w w' := fun w => by
    have q := mulRef_any a b c d w a0 a1 b0 b1 c0 c1 d0 d1; rw [h] at q; exact q
  have CDiv : ∀ w, Calls Tryd.prog 23 #[rv a b, rv c d] w fun e w' => e = .returned (.tuple #[.agg #[.int .i64 u, .int .i64 v], .int .i64 j]) ∧ Below w.heap.size w w' := fun w => by
    have q := divCode a b c d w a0 a1 b0 b1 c0 c1 d0 d1; rw [h'] at q; exact q
  have RDiv : ∀ w, Calls Tryd.prog 24 #[rv a b, rv c d] w fun e w' => e = .returned (.tuple #[.agg #[.int .i64 u, .int .i64 v], .int .i64 j]) ∧ Below w.heap.size w w' := fun w => by
    have q := divRef_any a b c d w a0 a1 b0 b1 c0 c1 d0 d1; rw [h'] at q; exact q
  have CMul := Lib.hid CMul
  have RMul := Lib.hid RMul
  have CDiv := Lib.hid CDiv
  have RDiv := Lib.hid RDiv
  clear h h'
  subst hc
  obtain ⟨W0, hW0⟩ : ∃ W0, ((w.alloc (.cells #[.int .i64 a, .int .i64 b] 23)).alloc (.cells #[.int .i64 0, .int .i64 d] 23)) = W0 := ⟨_, rfl⟩
  have P0 : Hid (Two W0 w.heap.size (.int .i64 a) (.int .i64 b)) := Lib.hid (by rw [← hW0]; exact (Two.new _ _ _ _).alloc _)
  have P1 : Hid (Two W0 (w.heap.size + 1) (.int .i64 0) (.int .i64 d)) := Lib.hid (by rw [← hW0]; exact Two.at_ (by simp) _ _ _)
  have B0 : Hid (Below w.heap.size w W0) := Lib.hid (by rw [← hW0]; exact ((Below.refl _ _).alloc (Nat.le_refl _) _).alloc (by simp) _)
  have hz0 : (w.heap.size + 1) < W0.heap.size := P1.out.lt
  have HW := Lib.hid hW0
  clear hW0
  go_enter Tryd.func6, Tryd.ntmps6
  go_wp2_with (first
    | (rw [HW.out]; (go_at_call 21; ((with_reducible refine (CMul.out _).mono ?_); rintro e w1 ⟨rfl, hb⟩; have hq : Below W0.heap.size W0 w1 := hb; have B1 := Lib.hid (Below.then_ B0.out hq); have P0 := Lib.hid (P0.out.stay hq); have P1 := Lib.hid (P1.out.stay hq); have oP0a := P0.out.c0; have oP0b := P0.out.c1; have oP0c := P0.out.lt; have oP1a := P1.out.c0; have oP1b := P1.out.c1; have oP1c := P1.out.lt; clear hq hb)))
    | (go_at_call 22; ((with_reducible refine (RMul.out _).mono ?_); rintro e w2 ⟨rfl, hb⟩; have hq : Below w1.heap.size w1 w2 := below_new hb; have B2 := Lib.hid (Below.then_ B1.out hq); have P0 := Lib.hid (P0.out.stay hq); have P1 := Lib.hid (P1.out.stay hq); have N1 := Lib.hid (two_new hb); clear oP0a oP0b oP0c oP1a oP1b oP1c; have oP0a := P0.out.c0; have oP0b := P0.out.c1; have oP0c := P0.out.lt; have oP1a := P1.out.c0; have oP1b := P1.out.c1; have oP1c := P1.out.lt; have oN1a := N1.out.c0; have oN1b := N1.out.c1; have oN1c := N1.out.lt; clear hq hb))
    | (go_at_call 23; ((with_reducible refine (CDiv.out _).mono ?_); rintro e w3 ⟨rfl, hb⟩; have hq : Below w2.heap.size w2 w3 := below_new hb; have B3 := Lib.hid (Below.then_ B2.out hq); have P0 := Lib.hid (P0.out.stay hq); have P1 := Lib.hid (P1.out.stay hq); have N1 := Lib.hid (N1.out.stay hq); have N2 := Lib.hid (two_new hb); clear oP0a oP0b oP0c oP1a oP1b oP1c oN1a oN1b oN1c; have oP0a := P0.out.c0; have oP0b := P0.out.c1; have oP0c := P0.out.lt; have oP1a := P1.out.c0; have oP1b := P1.out.c1; have oP1c := P1.out.lt; have oN1a := N1.out.c0; have oN1b := N1.out.c1; have oN1c := N1.out.lt; have oN2a := N2.out.c0; have oN2b := N2.out.c1; have oN2c := N2.out.lt; clear hq hb))
    | (go_at_call 24; ((with_reducible refine (RDiv.out _).mono ?_); rintro e w4 ⟨rfl, hb⟩; have hq : Below w3.heap.size w3 w4 := below_new hb; have B4 := Lib.hid (Below.then_ B3.out hq); have P0 := Lib.hid (P0.out.stay hq); have P1 := Lib.hid (P1.out.stay hq); have N1 := Lib.hid (N1.out.stay hq); have N2 := Lib.hid (N2.out.stay hq); have N3 := Lib.hid (two_new hb); clear oP0a oP0b oP0c oP1a oP1b oP1c oN1a oN1b oN1c oN2a oN2b oN2c; have oP0a := P0.out.c0; have oP0b := P0.out.c1; have oP0c := P0.out.lt; have oP1a := P1.out.c0; have oP1b := P1.out.c1; have oP1c := P1.out.lt; have oN1a := N1.out.c0; have oN1b := N1.out.c1; have oN1c := N1.out.lt; have oN2a := N2.out.c0; have oN2b := N2.out.c1; have oN2c := N2.out.lt; have oN3a := N3.out.c0; have oN3b := N3.out.c1; have oN3c := N3.out.lt; clear hq hb))
    | (go_at_call 14; ((with_reducible refine (awake_any _ (by first | exact HT.out.later B4.out | exact HT.out.later (B4.out.alloc B4.out.size _))).mono ?_); rintro e w5 ⟨rfl, hb⟩; have hq : Below w4.heap.size w4 w5 := below_new hb; have B5 := Lib.hid (Below.then_ B4.out hq); have P0 := Lib.hid (P0.out.stay hq); have P1 := Lib.hid (P1.out.stay hq); have N1 := Lib.hid (N1.out.stay hq); have N2 := Lib.hid (N2.out.stay hq); have N3 := Lib.hid (N3.out.stay hq); have N4 := Lib.hid (two_new hb); clear oP0a oP0b oP0c oP1a oP1b oP1c oN1a oN1b oN1c oN2a oN2b oN2c oN3a oN3b oN3c; have oP0a := P0.out.c0; have oP0b := P0.out.c1; have oP0c := P0.out.lt; have oP1a := P1.out.c0; have oP1b := P1.out.c1; have oP1c := P1.out.lt; have oN1a := N1.out.c0; have oN1b := N1.out.c1; have oN1c := N1.out.lt; have oN2a := N2.out.c0; have oN2b := N2.out.c1; have oN2c := N2.out.lt; have oN3a := N3.out.c0; have oN3b := N3.out.c1; have oN3c := N3.out.lt; have oN4a := N4.out.c0; have oN4b := N4.out.c1; have oN4c := N4.out.lt; clear hq hb)))
  go_ret
  exact ⟨rfl, B5.out⟩
set_option maxRecDepth 100000 in
set_option maxHeartbeats 32000000 in
theorem ratMuls_yes (a b c d : Int) (w : World) (a0 : -9223372036854775808 ≤ a) (a1 : a ≤ 9223372036854775807) (b0 : -9223372036854775808 ≤ b) (b1 : b ≤ 9223372036854775807) (c0 : -9223372036854775808 ≤ c) (c1 : c ≤ 9223372036854775807) (d0 : -9223372036854775808 ≤ d) (d1 : d ≤ 9223372036854775807) (ht : Tab w) (x y : Int) (h : mulS a b c d = (x, y, 0)) (hc : ¬ c = 0) :
    Calls Tryd.prog 6 #[rv a b, rv c d] w (tBool w true) := by
  have HT := Lib.hid ht
  clear ht
  obtain ⟨u, v, j, h'⟩ : ∃ u v j, divS a b c d = (u, v, j) := ⟨_, _, _, rfl⟩
  have CMul : ∀ w, Calls Tryd.prog 21 #[rv a b, rv c d] w fun e w' => e = .returned (.tuple #[.agg #[.int .i64 x, .int .i64 y], .int .i64 0]) ∧ Below w.heap.size w w' := fun w => by
    have q := mulCode a b c d w a0 a1 b0 b1 c0 c1 d0 d1; rw [h] at q; exact q
  have RMul : ∀ w, Calls Tryd.prog 22 #[rv a b, rv c d] w fun e w' => e = .returned (.tuple #[.agg #[.int .i64 x, .int .i64 y], .int .i64 0]) ∧ Below w.heap.size w w' := fun w => by
    have q := mulRef_any a b c d w a0 a1 b0 b1 c0 c1 d0 d1; rw [h] at q; exact q
  have CDiv : ∀ w, Calls Tryd.prog 23 #[rv a b, rv c d] w fun e w' => e = .returned (.tuple #[.agg #[.int .i64 u, .int .i64 v], .int .i64 j]) ∧ Below w.heap.size w w' := fun w => by
    have q := divCode a b c d w a0 a1 b0 b1 c0 c1 d0 d1; rw [h'] at q; exact q
  have RDiv : ∀ w, Calls Tryd.prog 24 #[rv a b, rv c d] w fun e w' => e = .returned (.tuple #[.agg #[.int .i64 u, .int .i64 v], .int .i64 j]) ∧ Below w.heap.size w w' := fun w => by
    have q := divRef_any a b c d w a0 a1 b0 b1 c0 c1 d0 d1; rw [h'] at q; exact q
  obtain ⟨hx, hy⟩ := mul_i64 h
  have h2 := div_back ⟨a0, a1⟩ ⟨b0, b1⟩ hc h
  have CB : ∀ w, Calls Tryd.prog 23 #[rv x y, rv c d] w fun e w' => e = .returned (.tuple #[.agg #[.int .i64 a, .int .i64 b], .int .i64 0]) ∧ Below w.heap.size w w' := fun w => by
    have q := divCode x y c d w hx.1 hx.2 hy.1 hy.2 c0 c1 d0 d1; rw [h2] at q; exact q
  have CB := Lib.hid CB
  clear h2
  have CMul := Lib.hid CMul
  have RMul := Lib.hid RMul
  have CDiv := Lib.hid CDiv
  have RDiv := Lib.hid RDiv
  clear h h'
  obtain ⟨W0, hW0⟩ : ∃ W0, ((w.alloc (.cells #[.int .i64 a, .int .i64 b] 23)).alloc (.cells #[.int .i64 c, .int .i64 d] 23)) = W0 := ⟨_, rfl⟩
  have P0 : Hid (Two W0 w.heap.size (.int .i64 a) (.int .i64 b)) := Lib.hid (by rw [← hW0]; exact (Two.new _ _ _ _).alloc _)
  have P1 : Hid (Two W0 (w.heap.size + 1) (.int .i64 c) (.int .i64 d)) := Lib.hid (by rw [← hW0]; exact Two.at_ (by simp) _ _ _)
  have B0 : Hid (Below w.heap.size w W0) := Lib.hid (by rw [← hW0]; exact ((Below.refl _ _).alloc (Nat.le_refl _) _).alloc (by simp) _)
  have hz0 : (w.heap.size + 1) < W0.heap.size := P1.out.lt
  have HW := Lib.hid hW0
  clear hW0
  go_enter Tryd.func6, Tryd.ntmps6
  go_wp2_with (first
    | (rw [HW.out]; (go_at_call 21; ((with_reducible refine (CMul.out _).mono ?_); rintro e w1 ⟨rfl, hb⟩; have hq : Below W0.heap.size W0 w1 := hb; have B1 := Lib.hid (Below.then_ B0.out hq); have P0 := Lib.hid (P0.out.stay hq); have P1 := Lib.hid (P1.out.stay hq); have oP0a := P0.out.c0; have oP0b := P0.out.c1; have oP0c := P0.out.lt; have oP1a := P1.out.c0; have oP1b := P1.out.c1; have oP1c := P1.out.lt; clear hq hb)))
    | (go_at_call 22; ((with_reducible refine (RMul.out _).mono ?_); rintro e w2 ⟨rfl, hb⟩; have hq : Below w1.heap.size w1 w2 := below_new hb; have B2 := Lib.hid (Below.then_ B1.out hq); have P0 := Lib.hid (P0.out.stay hq); have P1 := Lib.hid (P1.out.stay hq); have N1 := Lib.hid (two_new hb); clear oP0a oP0b oP0c oP1a oP1b oP1c; have oP0a := P0.out.c0; have oP0b := P0.out.c1; have oP0c := P0.out.lt; have oP1a := P1.out.c0; have oP1b := P1.out.c1; have oP1c := P1.out.lt; have oN1a := N1.out.c0; have oN1b := N1.out.c1; have oN1c := N1.out.lt; clear hq hb))
    | (go_at_call 23; ((with_reducible refine (CDiv.out _).mono ?_); rintro e w3 ⟨rfl, hb⟩; have hq : Below w2.heap.size w2 w3 := below_new hb; have B3 := Lib.hid (Below.then_ B2.out hq); have P0 := Lib.hid (P0.out.stay hq); have P1 := Lib.hid (P1.out.stay hq); have N1 := Lib.hid (N1.out.stay hq); have N2 := Lib.hid (two_new hb); clear oP0a oP0b oP0c oP1a oP1b oP1c oN1a oN1b oN1c; have oP0a := P0.out.c0; have oP0b := P0.out.c1; have oP0c := P0.out.lt; have oP1a := P1.out.c0; have oP1b := P1.out.c1; have oP1c := P1.out.lt; have oN1a := N1.out.c0; have oN1b := N1.out.c1; have oN1c := N1.out.lt; have oN2a := N2.out.c0; have oN2b := N2.out.c1; have oN2c := N2.out.lt; clear hq hb))
    | (go_at_call 24; ((with_reducible refine (RDiv.out _).mono ?_); rintro e w4 ⟨rfl, hb⟩; have hq : Below w3.heap.size w3 w4 := below_new hb; have B4 := Lib.hid (Below.then_ B3.out hq); have P0 := Lib.hid (P0.out.stay hq); have P1 := Lib.hid (P1.out.stay hq); have N1 := Lib.hid (N1.out.stay hq); have N2 := Lib.hid (N2.out.stay hq); have N3 := Lib.hid (two_new hb); clear oP0a oP0b oP0c oP1a oP1b oP1c oN1a oN1b oN1c oN2a oN2b oN2c; have oP0a := P0.out.c0; have oP0b := P0.out.c1; have oP0c := P0.out.lt; have oP1a := P1.out.c0; have oP1b := P1.out.c1; have oP1c := P1.out.lt; have oN1a := N1.out.c0; have oN1b := N1.out.c1; have oN1c := N1.out.lt; have oN2a := N2.out.c0; have oN2b := N2.out.c1; have oN2c := N2.out.lt; have oN3a := N3.out.c0; have oN3b := N3.out.c1; have oN3c := N3.out.lt; clear hq hb))
    | (go_at_call 23; ((with_reducible refine (CB.out _).mono ?_); rintro e w5 ⟨rfl, hb⟩; have hq : Below w4.heap.size w4 w5 := below_new hb; have B5 := Lib.hid (Below.then_ B4.out hq); have P0 := Lib.hid (P0.out.stay hq); have P1 := Lib.hid (P1.out.stay hq); have N1 := Lib.hid (N1.out.stay hq); have N2 := Lib.hid (N2.out.stay hq); have N3 := Lib.hid (N3.out.stay hq); have N4 := Lib.hid (two_new hb); clear oP0a oP0b oP0c oP1a oP1b oP1c oN1a oN1b oN1c oN2a oN2b oN2c oN3a oN3b oN3c; have oP0a := P0.out.c0; have oP0b := P0.out.c1; have oP0c := P0.out.lt; have oP1a := P1.out.c0; have oP1b := P1.out.c1; have oP1c := P1.out.lt; have oN1a := N1.out.c0; have oN1b := N1.out.c1; have oN1c := N1.out.lt; have oN2a := N2.out.c0; have oN2b := N2.out.c1; have oN2c := N2.out.lt; have oN3a := N3.out.c0; have oN3b := N3.out.c1; have oN3c := N3.out.lt; have oN4a := N4.out.c0; have oN4b := N4.out.c1; have oN4c := N4.out.lt; clear hq hb))
    | (go_at_call 14; ((with_reducible refine (awake_any _ (by first | exact HT.out.later B5.out | exact HT.out.later (B5.out.alloc B5.out.size _))).mono ?_); rintro e w6 ⟨rfl, hb⟩; have hq : Below w5.heap.size w5 w6 := below_new hb; have B6 := Lib.hid (Below.then_ B5.out hq); have P0 := Lib.hid (P0.out.stay hq); have P1 := Lib.hid (P1.out.stay hq); have N1 := Lib.hid (N1.out.stay hq); have N2 := Lib.hid (N2.out.stay hq); have N3 := Lib.hid (N3.out.stay hq); have N4 := Lib.hid (N4.out.stay hq); have N5 := Lib.hid (two_new hb); clear oP0a oP0b oP0c oP1a oP1b oP1c oN1a oN1b oN1c oN2a oN2b oN2c oN3a oN3b oN3c oN4a oN4b oN4c; have oP0a := P0.out.c0; have oP0b := P0.out.c1; have oP0c := P0.out.lt; have oP1a := P1.out.c0; have oP1b := P1.out.c1; have oP1c := P1.out.lt; have oN1a := N1.out.c0; have oN1b := N1.out.c1; have oN1c := N1.out.lt; have oN2a := N2.out.c0; have oN2b := N2.out.c1; have oN2c := N2.out.lt; have oN3a := N3.out.c0; have oN3b := N3.out.c1; have oN3c := N3.out.lt; have oN4a := N4.out.c0; have oN4b := N4.out.c1; have oN4c := N4.out.lt; have oN5a := N5.out.c0; have oN5b := N5.out.c1; have oN5c := N5.out.lt; clear hq hb)))
  go_ret
  exact ⟨rfl, B6.out⟩
theorem ratMuls_any (a b c d : Int) (w : World) (a0 : -9223372036854775808 ≤ a) (a1 : a ≤ 9223372036854775807) (b0 : -9223372036854775808 ≤ b) (b1 : b ≤ 9223372036854775807) (c0 : -9223372036854775808 ≤ c) (c1 : c ≤ 9223372036854775807) (d0 : -9223372036854775808 ≤ d) (d1 : d ≤ 9223372036854775807) (ht : Tab w) :
    Calls Tryd.prog 6 #[rv a b, rv c d] w (tBool w true) := by
  obtain ⟨x, y, k, h⟩ : ∃ x y k, mulS a b c d = (x, y, k) := ⟨_, _, _, rfl⟩
  by_cases hk : k = 0
  · subst hk
    by_cases hc : c = 0
    · exact ratMuls_zero a b c d w a0 a1 b0 b1 c0 c1 d0 d1 ht x y h hc
    · exact ratMuls_yes a b c d w a0 a1 b0 b1 c0 c1 d0 d1 ht x y h hc
  · exact ratMuls_no a b c d w a0 a1 b0 b1 c0 c1 d0 d1 ht x y k h hk
end Go.Proofs.YtjighmmfaedgbaaDoor.RatW
