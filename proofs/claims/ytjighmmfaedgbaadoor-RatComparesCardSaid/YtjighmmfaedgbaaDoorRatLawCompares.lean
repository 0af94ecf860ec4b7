/-
  The walk of RatCompares.
-/
import Derived.Test.YtjighmmfaedgbaaDoorRatAwake
import Derived.Test.YtjighmmfaedgbaaDoorRatLawM
import Derived.Test.YtjighmmfaedgbaaDoorRatCodeB
import Derived.Test.YtjighmmfaedgbaaDoorRatCodeC
import Derived.Test.YtjighmmfaedgbaaDoorRatRefB
namespace Go.Proofs.YtjighmmfaedgbaaDoor.RatW
open Go Go.RowKit Go.Proofs.YtjighmmfaedgbaaDoor.RatM

set_option maxRecDepth 100000 in
set_option maxHeartbeats 32000000 in
theorem ratCompares_no_m (a b c d : Int) (w : World) (a0 : -9223372036854775808 ≤ a) (a1 : a ≤ 9223372036854775807) (b0 : -9223372036854775808 ≤ b) (b1 : b ≤ 9223372036854775807) (c0 : -9223372036854775808 ≤ c) (c1 : c ≤ 9223372036854775807) (d0 : -9223372036854775808 ≤ d) (d1 : d ≤ 9223372036854775807) (ht : Tab w) (E x y k : Int) (h : cmpS a b c d = ((-1), E)) (hs : subS a b c d = (x, y, k)) (hk : ¬ k = 0) :
    Calls Tryd.prog 7 #[rv a b, rv c d] w (tBool w true) := by
  have HT := Lib.hid ht
  clear ht
  have hf : cmpS c d a b = (1, E) := cmp_flip h
  have CA : ∀ w, Calls Tryd.prog 25 #[rv a b, rv c d] w fun e w' => e = .returned (.tuple #[.int .i64 (-1), .int .i64 E]) ∧ Below w.heap.size w w' := fun w => by
    have q := compareCode a b c d w a0 a1 b0 b1 c0 c1 d0 d1; rw [h] at q; exact q
  have CR : ∀ w, Calls Tryd.prog 26 #[rv a b, rv c d] w fun e w' => e = .returned (.tuple #[.int .i64 (-1), .int .i64 E]) ∧ Below w.heap.size w w' := fun w => by
    have q := compareRef_any a b c d w a0 a1 b0 b1 c0 c1 d0 d1; rw [h] at q; exact q
  have CF : ∀ w, Calls Tryd.prog 25 #[rv c d, rv a b] w fun e w' => e = .returned (.tuple #[.int .i64 1, .int .i64 E]) ∧ Below w.heap.size w w' := fun w => by
    have q := compareCode c d a b w c0 c1 d0 d1 a0 a1 b0 b1; rw [hf] at q; exact q
  have CS : ∀ w, Calls Tryd.prog 19 #[rv a b, rv c d] w fun e w' => e = .returned (.tuple #[.agg #[.int .i64 x, .int .i64 y], .int .i64 k]) ∧ Below w.heap.size w w' := fun w => by
    have q := subCode a b c d w a0 a1 b0 b1 c0 c1 d0 d1; rw [hs] at q; exact q
  have CA := Lib.hid CA
  have CR := Lib.hid CR
  have CF := Lib.hid CF
  have CS := Lib.hid CS
  clear h hf hs
  obtain ⟨W0, hW0⟩ : ∃ W0, ((w.alloc (.cells #[.int .i64 a, .int .i64 b] 23)).alloc (.cells #[.int .i64 c, .int .i64 d] 23)) = W0 := ⟨_, rfl⟩
  have P0 : Hid (Two W0 w.heap.size (.int .i64 a) (.int .i64 b)) := Lib.hid (by rw [← hW0]; exact (Two.new _ _ _ _).alloc _)
  have P1 : Hid (Two W0 (w.heap.size + 1) (.int .i64 c) (.int .i64 d)) := Lib.hid (by rw [← hW0]; exact Two.at_ (by simp) _ _ _)
  have B0 : Hid (Below w.heap.size w W0) := Lib.hid (by rw [← hW0]; exact ((Below.refl _ _).alloc (Nat.le_refl _) _).alloc (by simp) _)
  have hz0 : (w.heap.size + 1) < W0.heap.size := P1.out.lt
  have HW := Lib.hid hW0
  clear hW0
  go_enter Tryd.func7, Tryd.ntmps7
  go_wp2_with (first
    | (rw [HW.out]; (go_at_call 25; ((with_reducible refine (CA.out _).mono ?_); rintro e w1 ⟨rfl, hb⟩; have hq : Below W0.heap.size W0 w1 := hb; have B1 := Lib.hid (Below.then_ B0.out hq); have P0 := Lib.hid (P0.out.stay hq); have P1 := Lib.hid (P1.out.stay hq); have oP0a := P0.out.c0; have oP0b := P0.out.c1; have oP0c := P0.out.lt; have oP1a := P1.out.c0; have oP1b := P1.out.c1; have oP1c := P1.out.lt; clear hq hb)))
    | (go_at_call 26; ((with_reducible refine (CR.out _).mono ?_); rintro e w2 ⟨rfl, hb⟩; have hq : Below w1.heap.size w1 w2 := hb; have B2 := Lib.hid (Below.then_ B1.out hq); have P0 := Lib.hid (P0.out.stay hq); have P1 := Lib.hid (P1.out.stay hq); clear oP0a oP0b oP0c oP1a oP1b oP1c; have oP0a := P0.out.c0; have oP0b := P0.out.c1; have oP0c := P0.out.lt; have oP1a := P1.out.c0; have oP1b := P1.out.c1; have oP1c := P1.out.lt; clear hq hb))
    | (go_at_call 25; ((with_reducible refine (CF.out _).mono ?_); rintro e w3 ⟨rfl, hb⟩; have hq : Below w2.heap.size w2 w3 := hb; have B3 := Lib.hid (Below.then_ B2.out hq); have P0 := Lib.hid (P0.out.stay hq); have P1 := Lib.hid (P1.out.stay hq); clear oP0a oP0b oP0c oP1a oP1b oP1c; have oP0a := P0.out.c0; have oP0b := P0.out.c1; have oP0c := P0.out.lt; have oP1a := P1.out.c0; have oP1b := P1.out.c1; have oP1c := P1.out.lt; clear hq hb))
    | (go_at_call 19; ((with_reducible refine (CS.out _).mono ?_); rintro e w4 ⟨rfl, hb⟩; have hq : Below w3.heap.size w3 w4 := hb; have B4 := Lib.hid (Below.then_ B3.out hq); have P0 := Lib.hid (P0.out.stay hq); have P1 := Lib.hid (P1.out.stay hq); clear oP0a oP0b oP0c oP1a oP1b oP1c; have oP0a := P0.out.c0; have oP0b := P0.out.c1; have oP0c := P0.out.lt; have oP1a := P1.out.c0; have oP1b := P1.out.c1; have oP1c := P1.out.lt; clear hq hb))
    | (go_at_call 14; ((with_reducible refine (awake_any _ (by first | exact HT.out.later B4.out | exact HT.out.later (B4.out.alloc B4.out.size _))).mono ?_); rintro e w5 ⟨rfl, hb⟩; have hq : Below w4.heap.size w4 w5 := below_new hb; have B5 := Lib.hid (Below.then_ B4.out hq); have P0 := Lib.hid (P0.out.stay hq); have P1 := Lib.hid (P1.out.stay hq); have N4 := Lib.hid (two_new hb); clear oP0a oP0b oP0c oP1a oP1b oP1c; have oP0a := P0.out.c0; have oP0b := P0.out.c1; have oP0c := P0.out.lt; have oP1a := P1.out.c0; have oP1b := P1.out.c1; have oP1c := P1.out.lt; have oN4a := N4.out.c0; have oN4b := N4.out.c1; have oN4c := N4.out.lt; clear hq hb)))
  go_ret
  exact ⟨rfl, B5.out⟩
set_option maxRecDepth 100000 in
set_option maxHeartbeats 32000000 in
theorem ratCompares_yes_m (a b c d : Int) (w : World) (a0 : -9223372036854775808 ≤ a) (a1 : a ≤ 9223372036854775807) (b0 : -9223372036854775808 ≤ b) (b1 : b ≤ 9223372036854775807) (c0 : -9223372036854775808 ≤ c) (c1 : c ≤ 9223372036854775807) (d0 : -9223372036854775808 ≤ d) (d1 : d ≤ 9223372036854775807) (ht : Tab w) (E x y : Int) (h : cmpS a b c d = ((-1), E)) (hs : subS a b c d = (x, y, 0)) :
    Calls Tryd.prog 7 #[rv a b, rv c d] w (tBool w true) := by
  have HT := Lib.hid ht
  clear ht
  have hf : cmpS c d a b = (1, E) := cmp_flip h
  have CA : ∀ w, Calls Tryd.prog 25 #[rv a b, rv c d] w fun e w' => e = .returned (.tuple #[.int .i64 (-1), .int .i64 E]) ∧ Below w.heap.size w w' := fun w => by
    have q := compareCode a b c d w a0 a1 b0 b1 c0 c1 d0 d1; rw [h] at q; exact q
  have CR : ∀ w, Calls Tryd.prog 26 #[rv a b, rv c d] w fun e w' => e = .returned (.tuple #[.int .i64 (-1), .int .i64 E]) ∧ Below w.heap.size w w' := fun w => by
    have q := compareRef_any a b c d w a0 a1 b0 b1 c0 c1 d0 d1; rw [h] at q; exact q
  have CF : ∀ w, Calls Tryd.prog 25 #[rv c d, rv a b] w fun e w' => e = .returned (.tuple #[.int .i64 1, .int .i64 E]) ∧ Below w.heap.size w w' := fun w => by
    have q := compareCode c d a b w c0 c1 d0 d1 a0 a1 b0 b1; rw [hf] at q; exact q
  have CS : ∀ w, Calls Tryd.prog 19 #[rv a b, rv c d] w fun e w' => e = .returned (.tuple #[.agg #[.int .i64 x, .int .i64 y], .int .i64 0]) ∧ Below w.heap.size w w' := fun w => by
    have q := subCode a b c d w a0 a1 b0 b1 c0 c1 d0 d1; rw [hs] at q; exact q
  obtain ⟨g1, g2, g3⟩ := cmp_sub h hs
  have l1 : x < 0 := by omega
  have l2 : ¬ x = 0 := by omega
  have l3 : (x == 0) = false := by simp [l2]
  have l4 : decide (x < 0) = true := decide_eq_true l1
  have HN : Hid (¬ (a = c ∧ b = d)) := Lib.hid (fun g => absurd (g3.2 g) (by decide))
  clear g1 g2 g3
  have CA := Lib.hid CA
  have CR := Lib.hid CR
  have CF := Lib.hid CF
  have CS := Lib.hid CS
  clear h hf hs
  obtain ⟨W0, hW0⟩ : ∃ W0, ((w.alloc (.cells #[.int .i64 a, .int .i64 b] 23)).alloc (.cells #[.int .i64 c, .int .i64 d] 23)) = W0 := ⟨_, rfl⟩
  have P0 : Hid (Two W0 w.heap.size (.int .i64 a) (.int .i64 b)) := Lib.hid (by rw [← hW0]; exact (Two.new _ _ _ _).alloc _)
  have P1 : Hid (Two W0 (w.heap.size + 1) (.int .i64 c) (.int .i64 d)) := Lib.hid (by rw [← hW0]; exact Two.at_ (by simp) _ _ _)
  have B0 : Hid (Below w.heap.size w W0) := Lib.hid (by rw [← hW0]; exact ((Below.refl _ _).alloc (Nat.le_refl _) _).alloc (by simp) _)
  have hz0 : (w.heap.size + 1) < W0.heap.size := P1.out.lt
  have HW := Lib.hid hW0
  clear hW0
  go_enter Tryd.func7, Tryd.ntmps7
  go_wp2_with (first
    | (rw [HW.out]; (go_at_call 25; ((with_reducible refine (CA.out _).mono ?_); rintro e w1 ⟨rfl, hb⟩; have hq : Below W0.heap.size W0 w1 := hb; have B1 := Lib.hid (Below.then_ B0.out hq); have P0 := Lib.hid (P0.out.stay hq); have P1 := Lib.hid (P1.out.stay hq); have oP0a := P0.out.c0; have oP0b := P0.out.c1; have oP0c := P0.out.lt; have oP1a := P1.out.c0; have oP1b := P1.out.c1; have oP1c := P1.out.lt; clear hq hb)))
    | (go_at_call 26; ((with_reducible refine (CR.out _).mono ?_); rintro e w2 ⟨rfl, hb⟩; have hq : Below w1.heap.size w1 w2 := hb; have B2 := Lib.hid (Below.then_ B1.out hq); have P0 := Lib.hid (P0.out.stay hq); have P1 := Lib.hid (P1.out.stay hq); clear oP0a oP0b oP0c oP1a oP1b oP1c; have oP0a := P0.out.c0; have oP0b := P0.out.c1; have oP0c := P0.out.lt; have oP1a := P1.out.c0; have oP1b := P1.out.c1; have oP1c := P1.out.lt; clear hq hb))
    | (go_at_call 25; ((with_reducible refine (CF.out _).mono ?_); rintro e w3 ⟨rfl, hb⟩; have hq : Below w2.heap.size w2 w3 := hb; have B3 := Lib.hid (Below.then_ B2.out hq); have P0 := Lib.hid (P0.out.stay hq); have P1 := Lib.hid (P1.out.stay hq); clear oP0a oP0b oP0c oP1a oP1b oP1c; have oP0a := P0.out.c0; have oP0b := P0.out.c1; have oP0c := P0.out.lt; have oP1a := P1.out.c0; have oP1b := P1.out.c1; have oP1c := P1.out.lt; clear hq hb))
    | (go_at_call 19; ((with_reducible refine (CS.out _).mono ?_); rintro e w4 ⟨rfl, hb⟩; have hq : Below w3.heap.size w3 w4 := hb; have B4 := Lib.hid (Below.then_ B3.out hq); have P0 := Lib.hid (P0.out.stay hq); have P1 := Lib.hid (P1.out.stay hq); clear oP0a oP0b oP0c oP1a oP1b oP1c; have oP0a := P0.out.c0; have oP0b := P0.out.c1; have oP0c := P0.out.lt; have oP1a := P1.out.c0; have oP1b := P1.out.c1; have oP1c := P1.out.lt; clear hq hb))
    | (go_at_call 14; ((with_reducible refine (awake_any _ (by first | exact HT.out.later B4.out | exact HT.out.later (B4.out.alloc B4.out.size _))).mono ?_); rintro e w5 ⟨rfl, hb⟩; have hq : Below w4.heap.size w4 w5 := below_new hb; have B5 := Lib.hid (Below.then_ B4.out hq); have P0 := Lib.hid (P0.out.stay hq); have P1 := Lib.hid (P1.out.stay hq); have N4 := Lib.hid (two_new hb); clear oP0a oP0b oP0c oP1a oP1b oP1c; have oP0a := P0.out.c0; have oP0b := P0.out.c1; have oP0c := P0.out.lt; have oP1a := P1.out.c0; have oP1b := P1.out.c1; have oP1c := P1.out.lt; have oN4a := N4.out.c0; have oN4b := N4.out.c1; have oN4c := N4.out.lt; clear hq hb)))
  all_goals first
    | (exfalso; exact HN.out ⟨by assumption, by assumption⟩)
    | (go_ret; exact ⟨rfl, B5.out⟩)
set_option maxRecDepth 100000 in
set_option maxHeartbeats 32000000 in
theorem ratCompares_no_z (a b c d : Int) (w : World) (a0 : -9223372036854775808 ≤ a) (a1 : a ≤ 9223372036854775807) (b0 : -9223372036854775808 ≤ b) (b1 : b ≤ 9223372036854775807) (c0 : -9223372036854775808 ≤ c) (c1 : c ≤ 9223372036854775807) (d0 : -9223372036854775808 ≤ d) (d1 : d ≤ 9223372036854775807) (ht : Tab w) (E x y k : Int) (h : cmpS a b c d = (0, E)) (hs : subS a b c d = (x, y, k)) (hk : ¬ k = 0) :
    Calls Tryd.prog 7 #[rv a b, rv c d] w (tBool w true) := by
  have HT := Lib.hid ht
  clear ht
  have hf : cmpS c d a b = (0, E) := cmp_flip h
  have CA : ∀ w, Calls Tryd.prog 25 #[rv a b, rv c d] w fun e w' => e = .returned (.tuple #[.int .i64 0, .int .i64 E]) ∧ Below w.heap.size w w' := fun w => by
    have q := compareCode a b c d w a0 a1 b0 b1 c0 c1 d0 d1; rw [h] at q; exact q
  have CR : ∀ w, Calls Tryd.prog 26 #[rv a b, rv c d] w fun e w' => e = .returned (.tuple #[.int .i64 0, .int .i64 E]) ∧ Below w.heap.size w w' := fun w => by
    have q := compareRef_any a b c d w a0 a1 b0 b1 c0 c1 d0 d1; rw [h] at q; exact q
  have CF : ∀ w, Calls Tryd.prog 25 #[rv c d, rv a b] w fun e w' => e = .returned (.tuple #[.int .i64 0, .int .i64 E]) ∧ Below w.heap.size w w' := fun w => by
    have q := compareCode c d a b w c0 c1 d0 d1 a0 a1 b0 b1; rw [hf] at q; exact q
  have CS : ∀ w, Calls Tryd.prog 19 #[rv a b, rv c d] w fun e w' => e = .returned (.tuple #[.agg #[.int .i64 x, .int .i64 y], .int .i64 k]) ∧ Below w.heap.size w w' := fun w => by
    have q := subCode a b c d w a0 a1 b0 b1 c0 c1 d0 d1; rw [hs] at q; exact q
  have CA := Lib.hid CA
  have CR := Lib.hid CR
  have CF := Lib.hid CF
  have CS := Lib.hid CS
  clear h hf hs
  obtain ⟨W0, hW0⟩ : ∃ W0, ((w.alloc (.cells #[.int .i64 a, .int .i64 b] 23)).alloc (.cells #[.int .i64 c, .int .i64 d] 23)) = W0 := ⟨_, rfl⟩
  have P0 : Hid (Two W0 w.heap.size (.int .i64 a) (.int .i64 b)) := Lib.hid (by rw [← hW0]; exact (Two.new _ _ _ _).alloc _)
  have P1 : Hid (Two W0 (w.heap.size + 1) (.int .i64 c) (.int .i64 d)) := Lib.hid (by rw [← hW0]; exact Two.at_ (by simp) _ _ _)
  have B0 : Hid (Below w.heap.size w W0) := Lib.hid (by rw [← hW0]; exact ((Below.refl _ _).alloc (Nat.le_refl _) _).alloc (by simp) _)
  have hz0 : (w.heap.size + 1) < W0.heap.size := P1.out.lt
  have HW := Lib.hid hW0
  clear hW0
  go_enter Tryd.func7, Tryd.ntmps7
  go_wp2_with (first
    | (rw [HW.out]; (go_at_call 25; ((with_reducible refine (CA.out _).mono ?_); rintro e w1 ⟨rfl, hb⟩; have hq : Below W0.heap.size W0 w1 := hb; have B1 := Lib.hid (Below.then_ B0.out hq); have P0 := Lib.hid (P0.out.stay hq); have P1 := Lib.hid (P1.out.stay hq); have oP0a := P0.out.c0; have oP0b := P0.out.c1; have oP0c := P0.out.lt; have oP1a := P1.out.c0; have oP1b := P1.out.c1; have oP1c := P1.out.lt; clear hq hb)))
    | (go_at_call 26; ((with_reducible refine (CR.out _).mono ?_); rintro e w2 ⟨rfl, hb⟩; have hq : Below w1.heap.size w1 w2 := hb; have B2 := Lib.hid (Below.then_ B1.out hq); have P0 := Lib.hid (P0.out.stay hq); have P1 := Lib.hid (P1.out.stay hq); clear oP0a oP0b oP0c oP1a oP1b oP1c; have oP0a := P0.out.c0; have oP0b := P0.out.c1; have oP0c := P0.out.lt; have oP1a := P1.out.c0; have oP1b := P1.out.c1; have oP1c := P1.out.lt; clear hq hb))
    | (go_at_call 25; ((with_reducible refine (CF.out _).mono ?_); rintro e w3 ⟨rfl, hb⟩; have hq : Below w2.heap.size w2 w3 := hb; have B3 := Lib.hid (Below.then_ B2.out hq); have P0 := Lib.hid (P0.out.stay hq); have P1 := Lib.hid (P1.out.stay hq); clear oP0a oP0b oP0c oP1a oP1b oP1c; have oP0a := P0.out.c0; have oP0b := P0.out.c1; have oP0c := P0.out.lt; have oP1a := P1.out.c0; have oP1b := P1.out.c1; have oP1c := P1.out.lt; clear hq hb))
    | (go_at_call 19; ((with_reducible refine (CS.out _).mono ?_); rintro e w4 ⟨rfl, hb⟩; have hq : Below w3.heap.size w3 w4 := hb; have B4 := Lib.hid (Below.then_ B3.out hq); have P0 := Lib.hid (P0.out.stay hq); have P1 := Lib.hid (P1.out.stay hq); clear oP0a oP0b oP0c oP1a oP1b oP1c; have oP0a := P0.out.c0; have oP0b := P0.out.c1; have oP0c := P0.out.lt; have oP1a := P1.out.c0; have oP1b := P1.out.c1; have oP1c := P1.out.lt; clear hq hb))
    | (go_at_call 14; ((with_reducible refine (awake_any _ (by first | exact HT.out.later B4.out | exact HT.out.later (B4.out.alloc B4.out.size _))).mono ?_); rintro e w5 ⟨rfl, hb⟩; have hq : Below w4.heap.size w4 w5 := below_new hb; have B5 := Lib.hid (Below.then_ B4.out hq); have P0 := Lib.hid (P0.out.stay hq); have P1 := Lib.hid (P1.out.stay hq); have N4 := Lib.hid (two_new hb); clear oP0a oP0b oP0c oP1a oP1b oP1c; have oP0a := P0.out.c0; have oP0b := P0.out.c1; have oP0c := P0.out.lt; have oP1a := P1.out.c0; have oP1b := P1.out.c1; have oP1c := P1.out.lt; have oN4a := N4.out.c0; have oN4b := N4.out.c1; have oN4c := N4.out.lt; clear hq hb)))
  go_ret
  exact ⟨rfl, B5.out⟩
set_option maxRecDepth 100000 in
set_option maxHeartbeats 32000000 in
theorem ratCompares_yes_z (a b c d : Int) (w : World) (a0 : -9223372036854775808 ≤ a) (a1 : a ≤ 9223372036854775807) (b0 : -9223372036854775808 ≤ b) (b1 : b ≤ 9223372036854775807) (c0 : -9223372036854775808 ≤ c) (c1 : c ≤ 9223372036854775807) (d0 : -9223372036854775808 ≤ d) (d1 : d ≤ 9223372036854775807) (ht : Tab w) (E x y : Int) (h : cmpS a b c d = (0, E)) (hs : subS a b c d = (x, y, 0)) :
    Calls Tryd.prog 7 #[rv a b, rv c d] w (tBool w true) := by
  have HT := Lib.hid ht
  clear ht
  have hf : cmpS c d a b = (0, E) := cmp_flip h
  have CA : ∀ w, Calls Tryd.prog 25 #[rv a b, rv c d] w fun e w' => e = .returned (.tuple #[.int .i64 0, .int .i64 E]) ∧ Below w.heap.size w w' := fun w => by
    have q := compareCode a b c d w a0 a1 b0 b1 c0 c1 d0 d1; rw [h] at q; exact q
  have CR : ∀ w, Calls Tryd.prog 26 #[rv a b, rv c d] w fun e w' => e = .returned (.tuple #[.int .i64 0, .int .i64 E]) ∧ Below w.heap.size w w' := fun w => by
    have q := compareRef_any a b c d w a0 a1 b0 b1 c0 c1 d0 d1; rw [h] at q; exact q
  have CF : ∀ w, Calls Tryd.prog 25 #[rv c d, rv a b] w fun e w' => e = .returned (.tuple #[.int .i64 0, .int .i64 E]) ∧ Below w.heap.size w w' := fun w => by
    have q := compareCode c d a b w c0 c1 d0 d1 a0 a1 b0 b1; rw [hf] at q; exact q
  have CS : ∀ w, Calls Tryd.prog 19 #[rv a b, rv c d] w fun e w' => e = .returned (.tuple #[.agg #[.int .i64 x, .int .i64 y], .int .i64 0]) ∧ Below w.heap.size w w' := fun w => by
    have q := subCode a b c d w a0 a1 b0 b1 c0 c1 d0 d1; rw [hs] at q; exact q
  obtain ⟨g1, g2, g3⟩ := cmp_sub h hs
  obtain rfl : x = 0 := g2.2 rfl
  obtain ⟨rfl, rfl⟩ := g3.1 rfl
  clear g1 g2 g3
  have CA := Lib.hid CA
  have CR := Lib.hid CR
  have CF := Lib.hid CF
  have CS := Lib.hid CS
  clear h hf hs
  obtain ⟨W0, hW0⟩ : ∃ W0, ((w.alloc (.cells #[.int .i64 a, .int .i64 b] 23)).alloc (.cells #[.int .i64 a, .int .i64 b] 23)) = W0 := ⟨_, rfl⟩
  have P0 : Hid (Two W0 w.heap.size (.int .i64 a) (.int .i64 b)) := Lib.hid (by rw [← hW0]; exact (Two.new _ _ _ _).alloc _)
  have P1 : Hid (Two W0 (w.heap.size + 1) (.int .i64 a) (.int .i64 b)) := Lib.hid (by rw [← hW0]; exact Two.at_ (by simp) _ _ _)
  have B0 : Hid (Below w.heap.size w W0) := Lib.hid (by rw [← hW0]; exact ((Below.refl _ _).alloc (Nat.le_refl _) _).alloc (by simp) _)
  have hz0 : (w.heap.size + 1) < W0.heap.size := P1.out.lt
  have HW := Lib.hid hW0
  clear hW0
  go_enter Tryd.func7, Tryd.ntmps7
  go_wp2_with (first
    | (rw [HW.out]; (go_at_call 25; ((with_reducible refine (CA.out _).mono ?_); rintro e w1 ⟨rfl, hb⟩; have hq : Below W0.heap.size W0 w1 := hb; have B1 := Lib.hid (Below.then_ B0.out hq); have P0 := Lib.hid (P0.out.stay hq); have P1 := Lib.hid (P1.out.stay hq); have oP0a := P0.out.c0; have oP0b := P0.out.c1; have oP0c := P0.out.lt; have oP1a := P1.out.c0; have oP1b := P1.out.c1; have oP1c := P1.out.lt; clear hq hb)))
    | (go_at_call 26; ((with_reducible refine (CR.out _).mono ?_); rintro e w2 ⟨rfl, hb⟩; have hq : Below w1.heap.size w1 w2 := hb; have B2 := Lib.hid (Below.then_ B1.out hq); have P0 := Lib.hid (P0.out.stay hq); have P1 := Lib.hid (P1.out.stay hq); clear oP0a oP0b oP0c oP1a oP1b oP1c; have oP0a := P0.out.c0; have oP0b := P0.out.c1; have oP0c := P0.out.lt; have oP1a := P1.out.c0; have oP1b := P1.out.c1; have oP1c := P1.out.lt; clear hq hb))
    | (go_at_call 25; ((with_reducible refine (CF.out _).mono ?_); rintro e w3 ⟨rfl, hb⟩; have hq : Below w2.heap.size w2 w3 := hb; have B3 := Lib.hid (Below.then_ B2.out hq); have P0 := Lib.hid (P0.out.stay hq); have P1 := Lib.hid (P1.out.stay hq); clear oP0a oP0b oP0c oP1a oP1b oP1c; have oP0a := P0.out.c0; have oP0b := P0.out.c1; have oP0c := P0.out.lt; have oP1a := P1.out.c0; have oP1b := P1.out.c1; have oP1c := P1.out.lt; clear hq hb))
    | (go_at_call 19; ((with_reducible refine (CS.out _).mono ?_); rintro e w4 ⟨rfl, hb⟩; have hq : Below w3.heap.size w3 w4 := hb; have B4 := Lib.hid (Below.then_ B3.out hq); have P0 := Lib.hid (P0.out.stay hq); have P1 := Lib.hid (P1.out.stay hq); clear oP0a oP0b oP0c oP1a oP1b oP1c; have oP0a := P0.out.c0; have oP0b := P0.out.c1; have oP0c := P0.out.lt; have oP1a := P1.out.c0; have oP1b := P1.out.c1; have oP1c := P1.out.lt; clear hq hb))
    | (go_at_call 14; ((with_reducible refine (awake_any _ (by first | exact HT.out.later B4.out | exact HT.out.later (B4.out.alloc B4.out.size _))).mono ?_); rintro e w5 ⟨rfl, hb⟩; have hq : Below w4.heap.size w4 w5 := below_new hb; have B5 := Lib.hid (Below.then_ B4.out hq); have P0 := Lib.hid (P0.out.stay hq); have P1 := Lib.hid (P1.out.stay hq); have N4 := Lib.hid (two_new hb); clear oP0a oP0b oP0c oP1a oP1b oP1c; have oP0a := P0.out.c0; have oP0b := P0.out.c1; have oP0c := P0.out.lt; have oP1a := P1.out.c0; have oP1b := P1.out.c1; have oP1c := P1.out.lt; have oN4a := N4.out.c0; have oN4b := N4.out.c1; have oN4c := N4.out.lt; clear hq hb)))
  go_ret
  exact ⟨rfl, B5.out⟩
set_option maxRecDepth 100000 in
set_option maxHeartbeats 32000000 in
theorem ratCompares_no_p (a b c d : Int) (w : World) (a0 : -9223372036854775808 ≤ a) (a1 : a ≤ 9223372036854775807) (b0 : -9223372036854775808 ≤ b) (b1 : b ≤ 9223372036854775807) (c0 : -9223372036854775808 ≤ c) (c1 : c ≤ 9223372036854775807) (d0 : -9223372036854775808 ≤ d) (d1 : d ≤ 9223372036854775807) (ht : Tab w) (E x y k : Int) (h : cmpS a b c d = (1, E)) (hs : subS a b c d = (x, y, k)) (hk : ¬ k = 0) :
    Calls Tryd.prog 7 #[rv a b, rv c d] w (tBool w true) := by
  have HT := Lib.hid ht
  clear ht
  have hf : cmpS c d a b = ((-1), E) := cmp_flip h
  have CA : ∀ w, Calls Tryd.prog 25 #[rv a b, rv c d] w fun e w' => e = .returned (.tuple #[.int .i64 1, .int .i64 E]) ∧ Below w.heap.size w w' := fun w => by
    have q := compareCode a b c d w a0 a1 b0 b1 c0 c1 d0 d1; rw [h] at q; exact q
  have CR : ∀ w, Calls Tryd.prog 26 #[rv a b, rv c d] w fun e w' => e = .returned (.tuple #[.int .i64 1, .int .i64 E]) ∧ Below w.heap.size w w' := fun w => by
    have q := compareRef_any a b c d w a0 a1 b0 b1 c0 c1 d0 d1; rw [h] at q; exact q
  have CF : ∀ w, Calls Tryd.prog 25 #[rv c d, rv a b] w fun e w' => e = .returned (.tuple #[.int .i64 (-1), .int .i64 E]) ∧ Below w.heap.size w w' := fun w => by
    have q := compareCode c d a b w c0 c1 d0 d1 a0 a1 b0 b1; rw [hf] at q; exact q
  have CS : ∀ w, Calls Tryd.prog 19 #[rv a b, rv c d] w fun e w' => e = .returned (.tuple #[.agg #[.int .i64 x, .int .i64 y], .int .i64 k]) ∧ Below w.heap.size w w' := fun w => by
    have q := subCode a b c d w a0 a1 b0 b1 c0 c1 d0 d1; rw [hs] at q; exact q
  have CA := Lib.hid CA
  have CR := Lib.hid CR
  have CF := Lib.hid CF
  have CS := Lib.hid CS
  clear h hf hs
  obtain ⟨W0, hW0⟩ : ∃ W0, ((w.alloc (.cells #[.int .i64 a, .int .i64 b] 23)).alloc (.cells #[.int .i64 c, .int .i64 d] 23)) = W0 := ⟨_, rfl⟩
  have P0 : Hid (Two W0 w.heap.size (.int .i64 a) (.int .i64 b)) := Lib.hid (by rw [← hW0]; exact (Two.new _ _ _ _).alloc _)
  have P1 : Hid (Two W0 (w.heap.size + 1) (.int .i64 c) (.int .i64 d)) := Lib.hid (by rw [← hW0]; exact Two.at_ (by simp) _ _ _)
  have B0 : Hid (Below w.heap.size w W0) := Lib.hid (by rw [← hW0]; exact ((Below.refl _ _).alloc (Nat.le_refl _) _).alloc (by simp) _)
  have hz0 : (w.heap.size + 1) < W0.heap.size := P1.out.lt
  have HW := Lib.hid hW0
  clear hW0
  go_enter Tryd.func7, Tryd.ntmps7
  go_wp2_with (first
    | (rw [HW.out]; (go_at_call 25; ((with_reducible refine (CA.out _).mono ?_); rintro e w1 ⟨rfl, hb⟩; have hq : Below W0.heap.size W0 w1 := hb; have B1 := Lib.hid (Below.then_ B0.out hq); have P0 := Lib.hid (P0.out.stay hq); have P1 := Lib.hid (P1.out.stay hq); have oP0a := P0.out.c0; have oP0b := P0.out.c1; have oP0c := P0.out.lt; have oP1a := P1.out.c0; have oP1b := P1.out.c1; have oP1c := P1.out.lt; clear hq hb)))
    | (go_at_call 26; ((with_reducible refine (CR.out _).mono ?_); rintro e w2 ⟨rfl, hb⟩; have hq : Below w1.heap.size w1 w2 := hb; have B2 := Lib.hid (Below.then_ B1.out hq); have P0 := Lib.hid (P0.out.stay hq); have P1 := Lib.hid (P1.out.stay hq); clear oP0a oP0b oP0c oP1a oP1b oP1c; have oP0a := P0.out.c0; have oP0b := P0.out.c1; have oP0c := P0.out.lt; have oP1a := P1.out.c0; have oP1b := P1.out.c1; have oP1c := P1.out.lt; clear hq hb))
    | (go_at_call 25; ((with_reducible refine (CF.out _).mono ?_); rintro e w3 ⟨rfl, hb⟩; have hq : Below w2.heap.size w2 w3 := hb; have B3 := Lib.hid (Below.then_ B2.out hq); have P0 := Lib.hid (P0.out.stay hq); have P1 := Lib.hid (P1.out.stay hq); clear oP0a oP0b oP0c oP1a oP1b oP1c; have oP0a := P0.out.c0; have oP0b := P0.out.c1; have oP0c := P0.out.lt; have oP1a := P1.out.c0; have oP1b := P1.out.c1; have oP1c := P1.out.lt; clear hq hb))
    | (go_at_call 19; ((with_reducible refine (CS.out _).mono ?_); rintro e w4 ⟨rfl, hb⟩; have hq : Below w3.heap.size w3 w4 := hb; have B4 := Lib.hid (Below.then_ B3.out hq); have P0 := Lib.hid (P0.out.stay hq); have P1 := Lib.hid (P1.out.stay hq); clear oP0a oP0b oP0c oP1a oP1b oP1c; have oP0a := P0.out.c0; have oP0b := P0.out.c1; have oP0c := P0.out.lt; have oP1a := P1.out.c0; have oP1b := P1.out.c1; have oP1c := P1.out.lt; clear hq hb))
    | (go_at_call 14; ((with_reducible refine (awake_any _ (by first | exact HT.out.later B4.out | exact HT.out.later (B4.out.alloc B4.out.size _))).mono ?_); rintro e w5 ⟨rfl, hb⟩; have hq : Below w4.heap.size w4 w5 := below_new hb; have B5 := Lib.hid (Below.then_ B4.out hq); have P0 := Lib.hid (P0.out.stay hq); have P1 := Lib.hid (P1.out.stay hq); have N4 := Lib.hid (two_new hb); clear oP0a oP0b oP0c oP1a oP1b oP1c; have oP0a := P0.out.c0; have oP0b := P0.out.c1; have oP0c := P0.out.lt; have oP1a := P1.out.c0; have oP1b := P1.out.c1; have oP1c := P1.out.lt; have oN4a := N4.out.c0; have oN4b := N4.out.c1; have oN4c := N4.out.lt; clear hq hb)))
  go_ret
  exact ⟨rfl, B5.out⟩
set_option maxRecDepth 100000 in
set_option maxHeartbeats 32000000 in
theorem ratCompares_yes_p (a b c d : Int) (w : World) (a0 : -9223372036854775808 ≤ a) (a1 : a ≤ 9223372036854775807) (b0 : -9223372036854775808 ≤ b) (b1 : b ≤ 9223372036854775807) (c0 : -9223372036854775808 ≤ c) (c1 : c ≤ 9223372036854775807) (d0 : -9223372036854775808 ≤ d) (d1 : d ≤ 9223372036854775807) (ht : Tab w) (E x y : Int) (h : cmpS a b c d = (1, E)) (hs : subS a b c d = (x, y, 0)) :
    Calls Tryd.prog 7 #[rv a b, rv c d] w (tBool w true) := by
  have HT := Lib.hid ht
  clear ht
  have hf : cmpS c d a b = ((-1), E) := cmp_flip h
  have CA : ∀ w, Calls Tryd.prog 25 #[rv a b, rv c d] w fun e w' => e = .returned (.tuple #[.int .i64 1, .int .i64 E]) ∧ Below w.heap.size w w' := fun w => by
    have q := compareCode a b c d w a0 a1 b0 b1 c0 c1 d0 d1; rw [h] at q; exact q
  have CR : ∀ w, Calls Tryd.prog 26 #[rv a b, rv c d] w fun e w' => e = .returned (.tuple #[.int .i64 1, .int .i64 E]) ∧ Below w.heap.size w w' := fun w => by
    have q := compareRef_any a b c d w a0 a1 b0 b1 c0 c1 d0 d1; rw [h] at q; exact q
  have CF : ∀ w, Calls Tryd.prog 25 #[rv c d, rv a b] w fun e w' => e = .returned (.tuple #[.int .i64 (-1), .int .i64 E]) ∧ Below w.heap.size w w' := fun w => by
    have q := compareCode c d a b w c0 c1 d0 d1 a0 a1 b0 b1; rw [hf] at q; exact q
  have CS : ∀ w, Calls Tryd.prog 19 #[rv a b, rv c d] w fun e w' => e = .returned (.tuple #[.agg #[.int .i64 x, .int .i64 y], .int .i64 0]) ∧ Below w.heap.size w w' := fun w => by
    have q := subCode a b c d w a0 a1 b0 b1 c0 c1 d0 d1; rw [hs] at q; exact q
  obtain ⟨g1, g2, g3⟩ := cmp_sub h hs
  have l1 : ¬ x < 0 := by omega
  have l2 : ¬ x = 0 := by omega
  have l3 : (x == 0) = false := by simp [l2]
  have l4 : decide (x < 0) = false := decide_eq_false l1
  have HN : Hid (¬ (a = c ∧ b = d)) := Lib.hid (fun g => absurd (g3.2 g) (by decide))
  clear g1 g2 g3
  have CA := Lib.hid CA
  have CR := Lib.hid CR
  have CF := Lib.hid CF
  have CS := Lib.hid CS
  clear h hf hs
  obtain ⟨W0, hW0⟩ : ∃ W0, ((w.alloc (.cells #[.int .i64 a, .int .i64 b] 23)).alloc (.cells #[.int .i64 c, .int .i64 d] 23)) = W0 := ⟨_, rfl⟩
  have P0 : Hid (Two W0 w.heap.size (.int .i64 a) (.int .i64 b)) := Lib.hid (by rw [← hW0]; exact (Two.new _ _ _ _).alloc _)
  have P1 : Hid (Two W0 (w.heap.size + 1) (.int .i64 c) (.int .i64 d)) := Lib.hid (by rw [← hW0]; exact Two.at_ (by simp) _ _ _)
  have B0 : Hid (Below w.heap.size w W0) := Lib.hid (by rw [← hW0]; exact ((Below.refl _ _).alloc (Nat.le_refl _) _).alloc (by simp) _)
  have hz0 : (w.heap.size + 1) < W0.heap.size := P1.out.lt
  have HW := Lib.hid hW0
  clear hW0
  go_enter Tryd.func7, Tryd.ntmps7
  go_wp2_with (first
    | (rw [HW.out]; (go_at_call 25; ((with_reducible refine (CA.out _).mono ?_); rintro e w1 ⟨rfl, hb⟩; have hq : Below W0.heap.size W0 w1 := hb; have B1 := Lib.hid (Below.then_ B0.out hq); have P0 := Lib.hid (P0.out.stay hq); have P1 := Lib.hid (P1.out.stay hq); have oP0a := P0.out.c0; have oP0b := P0.out.c1; have oP0c := P0.out.lt; have oP1a := P1.out.c0; have oP1b := P1.out.c1; have oP1c := P1.out.lt; clear hq hb)))
    | (go_at_call 26; ((with_reducible refine (CR.out _).mono ?_); rintro e w2 ⟨rfl, hb⟩; have hq : Below w1.heap.size w1 w2 := hb; have B2 := Lib.hid (Below.then_ B1.out hq); have P0 := Lib.hid (P0.out.stay hq); have P1 := Lib.hid (P1.out.stay hq); clear oP0a oP0b oP0c oP1a oP1b oP1c; have oP0a := P0.out.c0; have oP0b := P0.out.c1; have oP0c := P0.out.lt; have oP1a := P1.out.c0; have oP1b := P1.out.c1; have oP1c := P1.out.lt; clear hq hb))
    | (go_at_call 25; ((with_reducible refine (CF.out _).mono ?_); rintro e w3 ⟨rfl, hb⟩; have hq : Below w2.heap.size w2 w3 := hb; have B3 := Lib.hid (Below.then_ B2.out hq); have P0 := Lib.hid (P0.out.stay hq); have P1 := Lib.hid (P1.out.stay hq); clear oP0a oP0b oP0c oP1a oP1b oP1c; have oP0a := P0.out.c0; have oP0b := P0.out.c1; have oP0c := P0.out.lt; have oP1a := P1.out.c0; have oP1b := P1.out.c1; have oP1c := P1.out.lt; clear hq hb))
    | (go_at_call 19; ((with_reducible refine (CS.out _).mono ?_); rintro e w4 ⟨rfl, hb⟩; have hq : Below w3.heap.size w3 w4 := hb; have B4 := Lib.hid (Below.then_ B3.out hq); have P0 := Lib.hid (P0.out.stay hq); have P1 := Lib.hid (P1.out.stay hq); clear oP0a oP0b oP0c oP1a oP1b oP1c; have oP0a := P0.out.c0; have oP0b := P0.out.c1; have oP0c := P0.out.lt; have oP1a := P1.out.c0; have oP1b := P1.out.c1; have oP1c := P1.out.lt; clear hq hb))
    | (go_at_call 14; ((with_reducible refine (awake_any _ (by first | exact HT.out.later B4.out | exact HT.out.later (B4.out.alloc B4.out.size _))).mono ?_); rintro e w5 ⟨rfl, hb⟩; have hq : Below w4.heap.size w4 w5 := below_new hb; have B5 := Lib.hid (Below.then_ B4.out hq); have P0 := Lib.hid (P0.out.stay hq); have P1 := Lib.hid (P1.out.stay hq); have N4 := Lib.hid (two_new hb); clear oP0a oP0b oP0c oP1a oP1b oP1c; have oP0a := P0.out.c0; have oP0b := P0.out.c1; have oP0c := P0.out.lt; have oP1a := P1.out.c0; have oP1b := P1.out.c1; have oP1c := P1.out.lt; have oN4a := N4.out.c0; have oN4b := N4.out.c1; have oN4c := N4.out.lt; clear hq hb)))
  all_goals first
    | (exfalso; exact HN.out ⟨by assumption, by assumption⟩)
    | (go_ret; exact ⟨rfl, B5.out⟩)
theorem ratCompares_any (a b c d : Int) (w : World) (a0 : -9223372036854775808 ≤ a) (a1 : a ≤ 9223372036854775807) (b0 : -9223372036854775808 ≤ b) (b1 : b ≤ 9223372036854775807) (c0 : -9223372036854775808 ≤ c) (c1 : c ≤ 9223372036854775807) (d0 : -9223372036854775808 ≤ d) (d1 : d ≤ 9223372036854775807) (ht : Tab w) :
    Calls Tryd.prog 7 #[rv a b, rv c d] w (tBool w true) := by
  obtain ⟨n, E, h⟩ : ∃ n E, cmpS a b c d = (n, E) := ⟨_, _, rfl⟩
  obtain ⟨x, y, k, hs⟩ : ∃ x y k, subS a b c d = (x, y, k) := ⟨_, _, _, rfl⟩
  by_cases hk : k = 0
  · subst hk
    rcases cmp_i64 h with rfl | rfl | rfl
    · exact ratCompares_yes_m a b c d w a0 a1 b0 b1 c0 c1 d0 d1 ht E x y h hs
    · exact ratCompares_yes_z a b c d w a0 a1 b0 b1 c0 c1 d0 d1 ht E x y h hs
    · exact ratCompares_yes_p a b c d w a0 a1 b0 b1 c0 c1 d0 d1 ht E x y h hs
  · rcases cmp_i64 h with rfl | rfl | rfl
    · exact ratCompares_no_m a b c d w a0 a1 b0 b1 c0 c1 d0 d1 ht E x y k h hs hk
    · exact ratCompares_no_z a b c d w a0 a1 b0 b1 c0 c1 d0 d1 ht E x y k h hs hk
    · exact ratCompares_no_p a b c d w a0 a1 b0 b1 c0 c1 d0 d1 ht E x y k h hs hk
end Go.Proofs.YtjighmmfaedgbaaDoor.RatW
