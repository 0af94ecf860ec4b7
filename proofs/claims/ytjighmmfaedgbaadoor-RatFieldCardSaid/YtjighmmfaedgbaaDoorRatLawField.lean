/-
  The walk of RatField.
-/
import Derived.Test.YtjighmmfaedgbaaDoorRatAwake
import Derived.Test.YtjighmmfaedgbaaDoorRatLawM
import Derived.Test.YtjighmmfaedgbaaDoorRatCodeD
import Derived.Deep.DeepCutAuto
import Derived.Deep.CutBlock
import Derived.Deep.RegionWith
namespace Go.Proofs.YtjighmmfaedgbaaDoor.RatW
open Go Go.RowKit Go.Proofs.YtjighmmfaedgbaaDoor.RatM

set_option maxRecDepth 100000 in
set_option maxHeartbeats 32000000 in
theorem ratField_no (a b c d e f : Int) (w : World) (a0 : -9223372036854775808 ≤ a) (a1 : a ≤ 9223372036854775807) (b0 : -9223372036854775808 ≤ b) (b1 : b ≤ 9223372036854775807) (c0 : -9223372036854775808 ≤ c) (c1 : c ≤ 9223372036854775807) (d0 : -9223372036854775808 ≤ d) (d1 : d ≤ 9223372036854775807) (e0 : -9223372036854775808 ≤ e) (e1 : e ≤ 9223372036854775807) (f0 : -9223372036854775808 ≤ f) (f1 : f ≤ 9223372036854775807) (ht : Tab w) (x9 y9 k9 : Int) (h9 : divS a b a b = (x9, y9, k9)) (hk : ¬ k9 = 0) :
    Calls Tryd.prog 9 #[rv a b, rv c d, rv e f] w (tBool w true) := by
  have HT := Lib.hid ht
  clear ht
  obtain ⟨x1, y1, k1, h1⟩ : ∃ x y k, addS a b c d = (x, y, k) := ⟨_, _, _, rfl⟩
  obtain ⟨x3, y3, k3, h3⟩ : ∃ x y k, addS c d e f = (x, y, k) := ⟨_, _, _, rfl⟩
  obtain ⟨x4, y4, k4, h4⟩ : ∃ x y k, mulS a b c d = (x, y, k) := ⟨_, _, _, rfl⟩
  obtain ⟨x6, y6, k6, h6⟩ : ∃ x y k, mulS a b e f = (x, y, k) := ⟨_, _, _, rfl⟩
  have h2 : addS c d a b = (x1, y1, k1) := (add_comm' c d a b).trans h1
  have h5 : mulS c d a b = (x4, y4, k4) := (mul_comm' c d a b).trans h4
  obtain ⟨i1, j1⟩ := add_i64 h1
  obtain ⟨i3, j3⟩ := add_i64 h3
  obtain ⟨i4, j4⟩ := mul_i64 h4
  obtain ⟨i6, j6⟩ := mul_i64 h6
  obtain ⟨x7, y7, k7, h7⟩ : ∃ x y k, addS x1 y1 e f = (x, y, k) := ⟨_, _, _, rfl⟩
  obtain ⟨x8, y8, k8, h8⟩ : ∃ x y k, addS a b x3 y3 = (x, y, k) := ⟨_, _, _, rfl⟩
  obtain ⟨x10, y10, k10, h10⟩ : ∃ x y k, mulS a b x3 y3 = (x, y, k) := ⟨_, _, _, rfl⟩
  obtain ⟨x11, y11, k11, h11⟩ : ∃ x y k, addS x4 y4 x6 y6 = (x, y, k) := ⟨_, _, _, rfl⟩
  have HA : Hid (k1 = 0 → k3 = 0 → k7 = 0 → k8 = 0 → x7 = x8 ∧ y7 = y8) := Lib.hid (by rintro rfl rfl rfl rfl; exact add_assoc' h1 h3 h7 h8)
  have HM : Hid (k3 = 0 → k4 = 0 → k6 = 0 → k10 = 0 → k11 = 0 → x10 = x11 ∧ y10 = y11) := Lib.hid (by rintro rfl rfl rfl rfl rfl; exact distrib' h3 h4 h6 h10 h11)
  have C1 : ∀ w, Calls Tryd.prog 17 #[rv a b, rv c d] w fun e w' => e = .returned (.tuple #[.agg #[.int .i64 x1, .int .i64 y1], .int .i64 k1]) ∧ Below w.heap.size w w' := fun w => by
    have q := addCode a b c d w a0 a1 b0 b1 c0 c1 d0 d1; rw [h1] at q; exact q
  have C2 : ∀ w, Calls Tryd.prog 17 #[rv c d, rv a b] w fun e w' => e = .returned (.tuple #[.agg #[.int .i64 x1, .int .i64 y1], .int .i64 k1]) ∧ Below w.heap.size w w' := fun w => by
    have q := addCode c d a b w c0 c1 d0 d1 a0 a1 b0 b1; rw [h2] at q; exact q
  have C3 : ∀ w, Calls Tryd.prog 17 #[rv c d, rv e f] w fun e w' => e = .returned (.tuple #[.agg #[.int .i64 x3, .int .i64 y3], .int .i64 k3]) ∧ Below w.heap.size w w' := fun w => by
    have q := addCode c d e f w c0 c1 d0 d1 e0 e1 f0 f1; rw [h3] at q; exact q
  have C4 : ∀ w, Calls Tryd.prog 21 #[rv a b, rv c d] w fun e w' => e = .returned (.tuple #[.agg #[.int .i64 x4, .int .i64 y4], .int .i64 k4]) ∧ Below w.heap.size w w' := fun w => by
    have q := mulCode a b c d w a0 a1 b0 b1 c0 c1 d0 d1; rw [h4] at q; exact q
  have C5 : ∀ w, Calls Tryd.prog 21 #[rv c d, rv a b] w fun e w' => e = .returned (.tuple #[.agg #[.int .i64 x4, .int .i64 y4], .int .i64 k4]) ∧ Below w.heap.size w w' := fun w => by
    have q := mulCode c d a b w c0 c1 d0 d1 a0 a1 b0 b1; rw [h5] at q; exact q
  have C6 : ∀ w, Calls Tryd.prog 21 #[rv a b, rv e f] w fun e w' => e = .returned (.tuple #[.agg #[.int .i64 x6, .int .i64 y6], .int .i64 k6]) ∧ Below w.heap.size w w' := fun w => by
    have q := mulCode a b e f w a0 a1 b0 b1 e0 e1 f0 f1; rw [h6] at q; exact q
  have C7 : ∀ w, Calls Tryd.prog 17 #[rv x1 y1, rv e f] w fun e w' => e = .returned (.tuple #[.agg #[.int .i64 x7, .int .i64 y7], .int .i64 k7]) ∧ Below w.heap.size w w' := fun w => by
    have q := addCode x1 y1 e f w i1.1 i1.2 j1.1 j1.2 e0 e1 f0 f1; rw [h7] at q; exact q
  have C8 : ∀ w, Calls Tryd.prog 17 #[rv a b, rv x3 y3] w fun e w' => e = .returned (.tuple #[.agg #[.int .i64 x8, .int .i64 y8], .int .i64 k8]) ∧ Below w.heap.size w w' := fun w => by
    have q := addCode a b x3 y3 w a0 a1 b0 b1 i3.1 i3.2 j3.1 j3.2; rw [h8] at q; exact q
  have C10 : ∀ w, Calls Tryd.prog 21 #[rv a b, rv x3 y3] w fun e w' => e = .returned (.tuple #[.agg #[.int .i64 x10, .int .i64 y10], .int .i64 k10]) ∧ Below w.heap.size w w' := fun w => by
    have q := mulCode a b x3 y3 w a0 a1 b0 b1 i3.1 i3.2 j3.1 j3.2; rw [h10] at q; exact q
  have C11 : ∀ w, Calls Tryd.prog 17 #[rv x4 y4, rv x6 y6] w fun e w' => e = .returned (.tuple #[.agg #[.int .i64 x11, .int .i64 y11], .int .i64 k11]) ∧ Below w.heap.size w w' := fun w => by
    have q := addCode x4 y4 x6 y6 w i4.1 i4.2 j4.1 j4.2 i6.1 i6.2 j6.1 j6.2; rw [h11] at q; exact q
  have C9 : ∀ w, Calls Tryd.prog 23 #[rv a b, rv a b] w fun e w' => e = .returned (.tuple #[.agg #[.int .i64 x9, .int .i64 y9], .int .i64 k9]) ∧ Below w.heap.size w w' := fun w => by
    have q := divCode a b a b w a0 a1 b0 b1 a0 a1 b0 b1; rw [h9] at q; exact q
  have C1 := Lib.hid C1
  have C2 := Lib.hid C2
  have C3 := Lib.hid C3
  have C4 := Lib.hid C4
  have C5 := Lib.hid C5
  have C6 := Lib.hid C6
  have C7 := Lib.hid C7
  have C8 := Lib.hid C8
  have C10 := Lib.hid C10
  have C11 := Lib.hid C11
  have C9 := Lib.hid C9
  clear h1 h2 h3 h4 h5 h6 h7 h8 h9 h10 h11 i1 i3 i4 i6 j1 j3 j4 j6 a0 a1 b0 b1 c0 c1 d0 d1 e0 e1 f0 f1
  obtain ⟨W0, hW0⟩ : ∃ W0, (((w.alloc (.cells #[.int .i64 a, .int .i64 b] 23)).alloc (.cells #[.int .i64 c, .int .i64 d] 23)).alloc (.cells #[.int .i64 e, .int .i64 f] 23)) = W0 := ⟨_, rfl⟩
  have P0 : Hid (Two W0 w.heap.size (.int .i64 a) (.int .i64 b)) := Lib.hid (by rw [← hW0]; exact ((Two.new _ _ _ _).alloc _).alloc _)
  have P1 : Hid (Two W0 (w.heap.size + 1) (.int .i64 c) (.int .i64 d)) := Lib.hid (by rw [← hW0]; exact (Two.at_ (by simp) _ _ _).alloc _)
  have P2 : Hid (Two W0 (w.heap.size + 1 + 1) (.int .i64 e) (.int .i64 f)) := Lib.hid (by rw [← hW0]; exact Two.at_ (by simp) _ _ _)
  have B0 : Hid (Below w.heap.size w W0) := Lib.hid (by rw [← hW0]; exact (((Below.refl _ _).alloc (Nat.le_refl _) _).alloc (by simp) _).alloc (by simp; omega) _)
  have hz0 : (w.heap.size + 1 + 1) < W0.heap.size := P2.out.lt
  have HW := Lib.hid hW0
  clear hW0
  go_enter Tryd.func9, Tryd.ntmps9
  go_upto_region 11 with (first
    | (rw [HW.out]; (go_at_call 17; ((with_reducible refine (C1.out _).mono ?_); rintro e w1 ⟨rfl, hb⟩; have hq : Below W0.heap.size W0 w1 := hb; have B1 := Lib.hid (Below.then_ B0.out hq); have P0 := Lib.hid (P0.out.stay hq); have P1 := Lib.hid (P1.out.stay hq); have P2 := Lib.hid (P2.out.stay hq); have oP0a := P0.out.c0; have oP0b := P0.out.c1; have oP0c := P0.out.lt; have oP1a := P1.out.c0; have oP1b := P1.out.c1; have oP1c := P1.out.lt; have oP2a := P2.out.c0; have oP2b := P2.out.c1; have oP2c := P2.out.lt; clear hq hb)))
    | (go_at_call 17; ((with_reducible refine (C2.out _).mono ?_); rintro e w2 ⟨rfl, hb⟩; have hq : Below w1.heap.size w1 w2 := below_new hb; have B2 := Lib.hid (Below.then_ B1.out hq); have P0 := Lib.hid (P0.out.stay hq); have P1 := Lib.hid (P1.out.stay hq); have P2 := Lib.hid (P2.out.stay hq); have N1 := Lib.hid (two_new hb); clear oP0a oP0b oP0c oP1a oP1b oP1c oP2a oP2b oP2c; have oP0a := P0.out.c0; have oP0b := P0.out.c1; have oP0c := P0.out.lt; have oP1a := P1.out.c0; have oP1b := P1.out.c1; have oP1c := P1.out.lt; have oP2a := P2.out.c0; have oP2b := P2.out.c1; have oP2c := P2.out.lt; have oN1a := N1.out.c0; have oN1b := N1.out.c1; have oN1c := N1.out.lt; clear hq hb))
    | (go_at_call 17; ((with_reducible refine (C3.out _).mono ?_); rintro e w3 ⟨rfl, hb⟩; have hq : Below w2.heap.size w2 w3 := below_new hb; have B3 := Lib.hid (Below.then_ B2.out hq); have P0 := Lib.hid (P0.out.stay hq); have P1 := Lib.hid (P1.out.stay hq); have P2 := Lib.hid (P2.out.stay hq); have N1 := Lib.hid (N1.out.stay hq); have N2 := Lib.hid (two_new hb); clear oP0a oP0b oP0c oP1a oP1b oP1c oP2a oP2b oP2c oN1a oN1b oN1c; have oP0a := P0.out.c0; have oP0b := P0.out.c1; have oP0c := P0.out.lt; have oP1a := P1.out.c0; have oP1b := P1.out.c1; have oP1c := P1.out.lt; have oP2a := P2.out.c0; have oP2b := P2.out.c1; have oP2c := P2.out.lt; have oN1a := N1.out.c0; have oN1b := N1.out.c1; have oN1c := N1.out.lt; have oN2a := N2.out.c0; have oN2b := N2.out.c1; have oN2c := N2.out.lt; clear hq hb))
    | (go_at_call 21; ((with_reducible refine (C4.out _).mono ?_); rintro e w4 ⟨rfl, hb⟩; have hq : Below w3.heap.size w3 w4 := below_new hb; have B4 := Lib.hid (Below.then_ B3.out hq); have P0 := Lib.hid (P0.out.stay hq); have P1 := Lib.hid (P1.out.stay hq); have P2 := Lib.hid (P2.out.stay hq); have N1 := Lib.hid (N1.out.stay hq); have N2 := Lib.hid (N2.out.stay hq); have N3 := Lib.hid (two_new hb); clear oP0a oP0b oP0c oP1a oP1b oP1c oP2a oP2b oP2c oN1a oN1b oN1c oN2a oN2b oN2c; have oP0a := P0.out.c0; have oP0b := P0.out.c1; have oP0c := P0.out.lt; have oP1a := P1.out.c0; have oP1b := P1.out.c1; have oP1c := P1.out.lt; have oP2a := P2.out.c0; have oP2b := P2.out.c1; have oP2c := P2.out.lt; have oN1a := N1.out.c0; have oN1b := N1.out.c1; have oN1c := N1.out.lt; have oN2a := N2.out.c0; have oN2b := N2.out.c1; have oN2c := N2.out.lt; have oN3a := N3.out.c0; have oN3b := N3.out.c1; have oN3c := N3.out.lt; clear hq hb))
    | (go_at_call 21; ((with_reducible refine (C5.out _).mono ?_); rintro e w5 ⟨rfl, hb⟩; have hq : Below w4.heap.size w4 w5 := below_new hb; have B5 := Lib.hid (Below.then_ B4.out hq); have P0 := Lib.hid (P0.out.stay hq); have P1 := Lib.hid (P1.out.stay hq); have P2 := Lib.hid (P2.out.stay hq); have N1 := Lib.hid (N1.out.stay hq); have N2 := Lib.hid (N2.out.stay hq); have N3 := Lib.hid (N3.out.stay hq); have N4 := Lib.hid (two_new hb); clear oP0a oP0b oP0c oP1a oP1b oP1c oP2a oP2b oP2c oN1a oN1b oN1c oN2a oN2b oN2c oN3a oN3b oN3c; have oP0a := P0.out.c0; have oP0b := P0.out.c1; have oP0c := P0.out.lt; have oP1a := P1.out.c0; have oP1b := P1.out.c1; have oP1c := P1.out.lt; have oP2a := P2.out.c0; have oP2b := P2.out.c1; have oP2c := P2.out.lt; have oN1a := N1.out.c0; have oN1b := N1.out.c1; have oN1c := N1.out.lt; have oN2a := N2.out.c0; have oN2b := N2.out.c1; have oN2c := N2.out.lt; have oN3a := N3.out.c0; have oN3b := N3.out.c1; have oN3c := N3.out.lt; have oN4a := N4.out.c0; have oN4b := N4.out.c1; have oN4c := N4.out.lt; clear hq hb))
    | (go_at_call 21; ((with_reducible refine (C6.out _).mono ?_); rintro e w6 ⟨rfl, hb⟩; have hq : Below w5.heap.size w5 w6 := below_new hb; have B6 := Lib.hid (Below.then_ B5.out hq); have P0 := Lib.hid (P0.out.stay hq); have P1 := Lib.hid (P1.out.stay hq); have P2 := Lib.hid (P2.out.stay hq); have N1 := Lib.hid (N1.out.stay hq); have N2 := Lib.hid (N2.out.stay hq); have N3 := Lib.hid (N3.out.stay hq); have N4 := Lib.hid (N4.out.stay hq); have N5 := Lib.hid (two_new hb); clear oP0a oP0b oP0c oP1a oP1b oP1c oP2a oP2b oP2c oN1a oN1b oN1c oN2a oN2b oN2c oN3a oN3b oN3c oN4a oN4b oN4c; have oP0a := P0.out.c0; have oP0b := P0.out.c1; have oP0c := P0.out.lt; have oP1a := P1.out.c0; have oP1b := P1.out.c1; have oP1c := P1.out.lt; have oP2a := P2.out.c0; have oP2b := P2.out.c1; have oP2c := P2.out.lt; have oN1a := N1.out.c0; have oN1b := N1.out.c1; have oN1c := N1.out.lt; have oN2a := N2.out.c0; have oN2b := N2.out.c1; have oN2c := N2.out.lt; have oN3a := N3.out.c0; have oN3b := N3.out.c1; have oN3c := N3.out.lt; have oN4a := N4.out.c0; have oN4b := N4.out.c1; have oN4c := N4.out.lt; have oN5a := N5.out.c0; have oN5b := N5.out.c1; have oN5c := N5.out.lt; clear hq hb))
    | (go_at_call 17; ((with_reducible refine (C7.out _).mono ?_); rintro e w7 ⟨rfl, hb⟩; have hq : Below w6.heap.size w6 w7 := below_new hb; have B7 := Lib.hid (Below.then_ B6.out hq); have P0 := Lib.hid (P0.out.stay hq); have P1 := Lib.hid (P1.out.stay hq); have P2 := Lib.hid (P2.out.stay hq); have N1 := Lib.hid (N1.out.stay hq); have N2 := Lib.hid (N2.out.stay hq); have N3 := Lib.hid (N3.out.stay hq); have N4 := Lib.hid (N4.out.stay hq); have N5 := Lib.hid (N5.out.stay hq); have N6 := Lib.hid (two_new hb); clear oP0a oP0b oP0c oP1a oP1b oP1c oP2a oP2b oP2c oN1a oN1b oN1c oN2a oN2b oN2c oN3a oN3b oN3c oN4a oN4b oN4c oN5a oN5b oN5c; have oP0a := P0.out.c0; have oP0b := P0.out.c1; have oP0c := P0.out.lt; have oP1a := P1.out.c0; have oP1b := P1.out.c1; have oP1c := P1.out.lt; have oP2a := P2.out.c0; have oP2b := P2.out.c1; have oP2c := P2.out.lt; have oN1a := N1.out.c0; have oN1b := N1.out.c1; have oN1c := N1.out.lt; have oN2a := N2.out.c0; have oN2b := N2.out.c1; have oN2c := N2.out.lt; have oN3a := N3.out.c0; have oN3b := N3.out.c1; have oN3c := N3.out.lt; have oN4a := N4.out.c0; have oN4b := N4.out.c1; have oN4c := N4.out.lt; have oN5a := N5.out.c0; have oN5b := N5.out.c1; have oN5c := N5.out.lt; have oN6a := N6.out.c0; have oN6b := N6.out.c1; have oN6c := N6.out.lt; clear hq hb))
    | (go_at_call 17; ((with_reducible refine (C8.out _).mono ?_); rintro e w8 ⟨rfl, hb⟩; have hq : Below w7.heap.size w7 w8 := below_new hb; have B8 := Lib.hid (Below.then_ B7.out hq); have P0 := Lib.hid (P0.out.stay hq); have P1 := Lib.hid (P1.out.stay hq); have P2 := Lib.hid (P2.out.stay hq); have N1 := Lib.hid (N1.out.stay hq); have N2 := Lib.hid (N2.out.stay hq); have N3 := Lib.hid (N3.out.stay hq); have N4 := Lib.hid (N4.out.stay hq); have N5 := Lib.hid (N5.out.stay hq); have N6 := Lib.hid (N6.out.stay hq); have N7 := Lib.hid (two_new hb); clear oP0a oP0b oP0c oP1a oP1b oP1c oP2a oP2b oP2c oN1a oN1b oN1c oN2a oN2b oN2c oN3a oN3b oN3c oN4a oN4b oN4c oN5a oN5b oN5c oN6a oN6b oN6c; have oP0a := P0.out.c0; have oP0b := P0.out.c1; have oP0c := P0.out.lt; have oP1a := P1.out.c0; have oP1b := P1.out.c1; have oP1c := P1.out.lt; have oP2a := P2.out.c0; have oP2b := P2.out.c1; have oP2c := P2.out.lt; have oN1a := N1.out.c0; have oN1b := N1.out.c1; have oN1c := N1.out.lt; have oN2a := N2.out.c0; have oN2b := N2.out.c1; have oN2c := N2.out.lt; have oN3a := N3.out.c0; have oN3b := N3.out.c1; have oN3c := N3.out.lt; have oN4a := N4.out.c0; have oN4b := N4.out.c1; have oN4c := N4.out.lt; have oN5a := N5.out.c0; have oN5b := N5.out.c1; have oN5c := N5.out.lt; have oN6a := N6.out.c0; have oN6b := N6.out.c1; have oN6c := N6.out.lt; have oN7a := N7.out.c0; have oN7b := N7.out.c1; have oN7c := N7.out.lt; clear hq hb)))
  go_cut [8, 10, 12, 20, 22, 113] (fun s8 s10 s12 s20 s22 s wx => s8 = .int .i64 k1 ∧ s10 = .int .i64 k1 ∧ s12 = .int .i64 k3 ∧ s20 = .int .i64 k7 ∧ s22 = .int .i64 k8 ∧ s = .bool false ∧ wx = w8.alloc (.cells #[.int .i64 x8, .int .i64 y8] 23))
  case first =>
    go_wp2_with fail
    all_goals first
      | (go_meet; exact ⟨congrArg (Value.int .i64) (by first | rfl | omega), congrArg (Value.int .i64) (by first | rfl | omega), congrArg (Value.int .i64) (by first | rfl | omega), congrArg (Value.int .i64) (by first | rfl | omega), congrArg (Value.int .i64) (by first | rfl | omega), rfl, rfl⟩)
      | (exfalso; have q := HA.out (by assumption) (by assumption) (by assumption) (by assumption); omega)
  case rest =>
    obtain ⟨rfl, rfl, rfl, rfl, rfl, rfl, rfl⟩ := hcut
    go_upto_region 15 with (first
    | (go_at_call 21; ((with_reducible refine (C10.out _).mono ?_); rintro e w9 ⟨rfl, hb⟩; have hq : Below w8.heap.size w8 w9 := below_new hb; have B9 := Lib.hid (Below.then_ B8.out hq); have P0 := Lib.hid (P0.out.stay hq); have P1 := Lib.hid (P1.out.stay hq); have P2 := Lib.hid (P2.out.stay hq); have N1 := Lib.hid (N1.out.stay hq); have N2 := Lib.hid (N2.out.stay hq); have N3 := Lib.hid (N3.out.stay hq); have N4 := Lib.hid (N4.out.stay hq); have N5 := Lib.hid (N5.out.stay hq); have N6 := Lib.hid (N6.out.stay hq); have N7 := Lib.hid (N7.out.stay hq); have N8 := Lib.hid (two_new hb); clear oP0a oP0b oP0c oP1a oP1b oP1c oP2a oP2b oP2c oN1a oN1b oN1c oN2a oN2b oN2c oN3a oN3b oN3c oN4a oN4b oN4c oN5a oN5b oN5c oN6a oN6b oN6c oN7a oN7b oN7c; have oP0a := P0.out.c0; have oP0b := P0.out.c1; have oP0c := P0.out.lt; have oP1a := P1.out.c0; have oP1b := P1.out.c1; have oP1c := P1.out.lt; have oP2a := P2.out.c0; have oP2b := P2.out.c1; have oP2c := P2.out.lt; have oN1a := N1.out.c0; have oN1b := N1.out.c1; have oN1c := N1.out.lt; have oN2a := N2.out.c0; have oN2b := N2.out.c1; have oN2c := N2.out.lt; have oN3a := N3.out.c0; have oN3b := N3.out.c1; have oN3c := N3.out.lt; have oN4a := N4.out.c0; have oN4b := N4.out.c1; have oN4c := N4.out.lt; have oN5a := N5.out.c0; have oN5b := N5.out.c1; have oN5c := N5.out.lt; have oN6a := N6.out.c0; have oN6b := N6.out.c1; have oN6c := N6.out.lt; have oN7a := N7.out.c0; have oN7b := N7.out.c1; have oN7c := N7.out.lt; have oN8a := N8.out.c0; have oN8b := N8.out.c1; have oN8c := N8.out.lt; clear hq hb))
    | (go_at_call 17; ((with_reducible refine (C11.out _).mono ?_); rintro e w10 ⟨rfl, hb⟩; have hq : Below w9.heap.size w9 w10 := below_new hb; have B10 := Lib.hid (Below.then_ B9.out hq); have P0 := Lib.hid (P0.out.stay hq); have P1 := Lib.hid (P1.out.stay hq); have P2 := Lib.hid (P2.out.stay hq); have N1 := Lib.hid (N1.out.stay hq); have N2 := Lib.hid (N2.out.stay hq); have N3 := Lib.hid (N3.out.stay hq); have N4 := Lib.hid (N4.out.stay hq); have N5 := Lib.hid (N5.out.stay hq); have N6 := Lib.hid (N6.out.stay hq); have N7 := Lib.hid (N7.out.stay hq); have N8 := Lib.hid (N8.out.stay hq); have N9 := Lib.hid (two_new hb); clear oP0a oP0b oP0c oP1a oP1b oP1c oP2a oP2b oP2c oN1a oN1b oN1c oN2a oN2b oN2c oN3a oN3b oN3c oN4a oN4b oN4c oN5a oN5b oN5c oN6a oN6b oN6c oN7a oN7b oN7c oN8a oN8b oN8c; have oP0a := P0.out.c0; have oP0b := P0.out.c1; have oP0c := P0.out.lt; have oP1a := P1.out.c0; have oP1b := P1.out.c1; have oP1c := P1.out.lt; have oP2a := P2.out.c0; have oP2b := P2.out.c1; have oP2c := P2.out.lt; have oN1a := N1.out.c0; have oN1b := N1.out.c1; have oN1c := N1.out.lt; have oN2a := N2.out.c0; have oN2b := N2.out.c1; have oN2c := N2.out.lt; have oN3a := N3.out.c0; have oN3b := N3.out.c1; have oN3c := N3.out.lt; have oN4a := N4.out.c0; have oN4b := N4.out.c1; have oN4c := N4.out.lt; have oN5a := N5.out.c0; have oN5b := N5.out.c1; have oN5c := N5.out.lt; have oN6a := N6.out.c0; have oN6b := N6.out.c1; have oN6c := N6.out.lt; have oN7a := N7.out.c0; have oN7b := N7.out.c1; have oN7c := N7.out.lt; have oN8a := N8.out.c0; have oN8b := N8.out.c1; have oN8c := N8.out.lt; have oN9a := N9.out.c0; have oN9b := N9.out.c1; have oN9c := N9.out.lt; clear hq hb)))
    go_cut [12, 14, 16, 18, 24, 26, 148] (fun s12 s14 s16 s18 s24 s26 s wx => s12 = .int .i64 k3 ∧ s14 = .int .i64 k4 ∧ s16 = .int .i64 k4 ∧ s18 = .int .i64 k6 ∧ s24 = .int .i64 k10 ∧ s26 = .int .i64 k11 ∧ s = .bool false ∧ wx = w10.alloc (.cells #[.int .i64 x11, .int .i64 y11] 23))
    case first =>
      go_wp2_with fail
      all_goals first
        | (go_meet; exact ⟨congrArg (Value.int .i64) (by first | rfl | omega), congrArg (Value.int .i64) (by first | rfl | omega), congrArg (Value.int .i64) (by first | rfl | omega), congrArg (Value.int .i64) (by first | rfl | omega), congrArg (Value.int .i64) (by first | rfl | omega), congrArg (Value.int .i64) (by first | rfl | omega), rfl, rfl⟩)
        | (exfalso; have q := HM.out (by assumption) (by assumption) (by assumption) (by assumption) (by assumption); omega)
    case rest =>
      obtain ⟨rfl, rfl, rfl, rfl, rfl, rfl, rfl, rfl⟩ := hcut
      go_wp2_with (go_at_call 23; ((with_reducible refine (C9.out _).mono ?_); rintro e w11 ⟨rfl, hb⟩; have hq : Below w10.heap.size w10 w11 := below_new hb; have B11 := Lib.hid (Below.then_ B10.out hq); have P0 := Lib.hid (P0.out.stay hq); have P1 := Lib.hid (P1.out.stay hq); have P2 := Lib.hid (P2.out.stay hq); have N1 := Lib.hid (N1.out.stay hq); have N2 := Lib.hid (N2.out.stay hq); have N3 := Lib.hid (N3.out.stay hq); have N4 := Lib.hid (N4.out.stay hq); have N5 := Lib.hid (N5.out.stay hq); have N6 := Lib.hid (N6.out.stay hq); have N7 := Lib.hid (N7.out.stay hq); have N8 := Lib.hid (N8.out.stay hq); have N9 := Lib.hid (N9.out.stay hq); have N10 := Lib.hid (two_new hb); clear oP0a oP0b oP0c oP1a oP1b oP1c oP2a oP2b oP2c oN1a oN1b oN1c oN2a oN2b oN2c oN3a oN3b oN3c oN4a oN4b oN4c oN5a oN5b oN5c oN6a oN6b oN6c oN7a oN7b oN7c oN8a oN8b oN8c oN9a oN9b oN9c; have oP0a := P0.out.c0; have oP0b := P0.out.c1; have oP0c := P0.out.lt; have oP1a := P1.out.c0; have oP1b := P1.out.c1; have oP1c := P1.out.lt; have oP2a := P2.out.c0; have oP2b := P2.out.c1; have oP2c := P2.out.lt; have oN1a := N1.out.c0; have oN1b := N1.out.c1; have oN1c := N1.out.lt; have oN2a := N2.out.c0; have oN2b := N2.out.c1; have oN2c := N2.out.lt; have oN3a := N3.out.c0; have oN3b := N3.out.c1; have oN3c := N3.out.lt; have oN4a := N4.out.c0; have oN4b := N4.out.c1; have oN4c := N4.out.lt; have oN5a := N5.out.c0; have oN5b := N5.out.c1; have oN5c := N5.out.lt; have oN6a := N6.out.c0; have oN6b := N6.out.c1; have oN6c := N6.out.lt; have oN7a := N7.out.c0; have oN7b := N7.out.c1; have oN7c := N7.out.lt; have oN8a := N8.out.c0; have oN8b := N8.out.c1; have oN8c := N8.out.lt; have oN9a := N9.out.c0; have oN9b := N9.out.c1; have oN9c := N9.out.lt; have oN10a := N10.out.c0; have oN10b := N10.out.c1; have oN10c := N10.out.lt; clear hq hb))
      obtain ⟨w12, hw12⟩ : ∃ w12, w11.alloc (.cells #[.int .i64 x9, .int .i64 y9] 23) = w12 := ⟨_, rfl⟩
      have D9 : Two w12 w11.heap.size (.int .i64 x9) (.int .i64 y9) := by rw [← hw12]; exact Two.new w11 _ _ _
      have B12 : Hid (Below w.heap.size w w12) := Lib.hid (by rw [← hw12]; exact B11.out.alloc B11.out.size _)
      rw [hw12]
      clear hw12
      have hkb : (k9 != 0) = true := by simp [hk]
      go_region_with (go_at_call 14; ((with_reducible refine (awake_any _ (by first | exact (HT.out.later B12.out).later (Below.refl _ _).drew | exact HT.out.later B12.out)).mono ?_); rintro e wx ⟨rfl, hb⟩; have HX : Hid (Below w12.heap.size w12 wx) := Lib.hid (by first | exact below_drew hb | exact hb); clear hb))
      all_goals
        go_wp2
        go_ret
        exact ⟨rfl, B12.out.trans (HX.out.mono B12.out.size)⟩
set_option maxRecDepth 100000 in
set_option maxHeartbeats 32000000 in
theorem ratField_yes (a b c d e f : Int) (w : World) (a0 : -9223372036854775808 ≤ a) (a1 : a ≤ 9223372036854775807) (b0 : -9223372036854775808 ≤ b) (b1 : b ≤ 9223372036854775807) (c0 : -9223372036854775808 ≤ c) (c1 : c ≤ 9223372036854775807) (d0 : -9223372036854775808 ≤ d) (d1 : d ≤ 9223372036854775807) (e0 : -9223372036854775808 ≤ e) (e1 : e ≤ 9223372036854775807) (f0 : -9223372036854775808 ≤ f) (f1 : f ≤ 9223372036854775807) (ht : Tab w) (h9 : divS a b a b = (1, 1, 0)) :
    Calls Tryd.prog 9 #[rv a b, rv c d, rv e f] w (tBool w true) := by
  have HT := Lib.hid ht
  clear ht
  obtain ⟨x1, y1, k1, h1⟩ : ∃ x y k, addS a b c d = (x, y, k) := ⟨_, _, _, rfl⟩
  obtain ⟨x3, y3, k3, h3⟩ : ∃ x y k, addS c d e f = (x, y, k) := ⟨_, _, _, rfl⟩
  obtain ⟨x4, y4, k4, h4⟩ : ∃ x y k, mulS a b c d = (x, y, k) := ⟨_, _, _, rfl⟩
  obtain ⟨x6, y6, k6, h6⟩ : ∃ x y k, mulS a b e f = (x, y, k) := ⟨_, _, _, rfl⟩
  have h2 : addS c d a b = (x1, y1, k1) := (add_comm' c d a b).trans h1
  have h5 : mulS c d a b = (x4, y4, k4) := (mul_comm' c d a b).trans h4
  obtain ⟨i1, j1⟩ := add_i64 h1
  obtain ⟨i3, j3⟩ := add_i64 h3
  obtain ⟨i4, j4⟩ := mul_i64 h4
  obtain ⟨i6, j6⟩ := mul_i64 h6
  obtain ⟨x7, y7, k7, h7⟩ : ∃ x y k, addS x1 y1 e f = (x, y, k) := ⟨_, _, _, rfl⟩
  obtain ⟨x8, y8, k8, h8⟩ : ∃ x y k, addS a b x3 y3 = (x, y, k) := ⟨_, _, _, rfl⟩
  obtain ⟨x10, y10, k10, h10⟩ : ∃ x y k, mulS a b x3 y3 = (x, y, k) := ⟨_, _, _, rfl⟩
  obtain ⟨x11, y11, k11, h11⟩ : ∃ x y k, addS x4 y4 x6 y6 = (x, y, k) := ⟨_, _, _, rfl⟩
  have HA : Hid (k1 = 0 → k3 = 0 → k7 = 0 → k8 = 0 → x7 = x8 ∧ y7 = y8) := Lib.hid (by rintro rfl rfl rfl rfl; exact add_assoc' h1 h3 h7 h8)
  have HM : Hid (k3 = 0 → k4 = 0 → k6 = 0 → k10 = 0 → k11 = 0 → x10 = x11 ∧ y10 = y11) := Lib.hid (by rintro rfl rfl rfl rfl rfl; exact distrib' h3 h4 h6 h10 h11)
  have C1 : ∀ w, Calls Tryd.prog 17 #[rv a b, rv c d] w fun e w' => e = .returned (.tuple #[.agg #[.int .i64 x1, .int .i64 y1], .int .i64 k1]) ∧ Below w.heap.size w w' := fun w => by
    have q := addCode a b c d w a0 a1 b0 b1 c0 c1 d0 d1; rw [h1] at q; exact q
  have C2 : ∀ w, Calls Tryd.prog 17 #[rv c d, rv a b] w fun e w' => e = .returned (.tuple #[.agg #[.int .i64 x1, .int .i64 y1], .int .i64 k1]) ∧ Below w.heap.size w w' := fun w => by
    have q := addCode c d a b w c0 c1 d0 d1 a0 a1 b0 b1; rw [h2] at q; exact q
  have C3 : ∀ w, Calls Tryd.prog 17 #[rv c d, rv e f] w fun e w' => e = .returned (.tuple #[.agg #[.int .i64 x3, .int .i64 y3], .int .i64 k3]) ∧ Below w.heap.size w w' := fun w => by
    have q := addCode c d e f w c0 c1 d0 d1 e0 e1 f0 f1; rw [h3] at q; exact q
  have C4 : ∀ w, Calls Tryd.prog 21 #[rv a b, rv c d] w fun e w' => e = .returned (.tuple #[.agg #[.int .i64 x4, .int .i64 y4], .int .i64 k4]) ∧ Below w.heap.size w w' := fun w => by
    have q := mulCode a b c d w a0 a1 b0 b1 c0 c1 d0 d1; rw [h4] at q; exact q
  have C5 : ∀ w, Calls Tryd.prog 21 #[rv c d, rv a b] w fun e w' => e = .returned (.tuple #[.agg #[.int .i64 x4, .int .i64 y4], .int .i64 k4]) ∧ Below w.heap.size w w' := fun w => by
    have q := mulCode c d a b w c0 c1 d0 d1 a0 a1 b0 b1; rw [h5] at q; exact q
  have C6 : ∀ w, Calls Tryd.prog 21 #[rv a b, rv e f] w fun e w' => e = .returned (.tuple #[.agg #[.int .i64 x6, .int .i64 y6], .int .i64 k6]) ∧ Below w.heap.size w w' := fun w => by
    have q := mulCode a b e f w a0 a1 b0 b1 e0 e1 f0 f1; rw [h6] at q; exact q
  have C7 : ∀ w, Calls Tryd.prog 17 #[rv x1 y1, rv e f] w fun e w' => e = .returned (.tuple #[.agg #[.int .i64 x7, .int .i64 y7], .int .i64 k7]) ∧ Below w.heap.size w w' := fun w => by
    have q := addCode x1 y1 e f w i1.1 i1.2 j1.1 j1.2 e0 e1 f0 f1; rw [h7] at q; exact q
  have C8 : ∀ w, Calls Tryd.prog 17 #[rv a b, rv x3 y3] w fun e w' => e = .returned (.tuple #[.agg #[.int .i64 x8, .int .i64 y8], .int .i64 k8]) ∧ Below w.heap.size w w' := fun w => by
    have q := addCode a b x3 y3 w a0 a1 b0 b1 i3.1 i3.2 j3.1 j3.2; rw [h8] at q; exact q
  have C10 : ∀ w, Calls Tryd.prog 21 #[rv a b, rv x3 y3] w fun e w' => e = .returned (.tuple #[.agg #[.int .i64 x10, .int .i64 y10], .int .i64 k10]) ∧ Below w.heap.size w w' := fun w => by
    have q := mulCode a b x3 y3 w a0 a1 b0 b1 i3.1 i3.2 j3.1 j3.2; rw [h10] at q; exact q
  have C11 : ∀ w, Calls Tryd.prog 17 #[rv x4 y4, rv x6 y6] w fun e w' => e = .returned (.tuple #[.agg #[.int .i64 x11, .int .i64 y11], .int .i64 k11]) ∧ Below w.heap.size w w' := fun w => by
    have q := addCode x4 y4 x6 y6 w i4.1 i4.2 j4.1 j4.2 i6.1 i6.2 j6.1 j6.2; rw [h11] at q; exact q
  have C9 : ∀ w, Calls Tryd.prog 23 #[rv a b, rv a b] w fun e w' => e = .returned (.tuple #[.agg #[.int .i64 1, .int .i64 1], .int .i64 0]) ∧ Below w.heap.size w w' := fun w => by
    have q := divCode a b a b w a0 a1 b0 b1 a0 a1 b0 b1; rw [h9] at q; exact q
  have C1 := Lib.hid C1
  have C2 := Lib.hid C2
  have C3 := Lib.hid C3
  have C4 := Lib.hid C4
  have C5 := Lib.hid C5
  have C6 := Lib.hid C6
  have C7 := Lib.hid C7
  have C8 := Lib.hid C8
  have C10 := Lib.hid C10
  have C11 := Lib.hid C11
  have C9 := Lib.hid C9
  clear h1 h2 h3 h4 h5 h6 h7 h8 h9 h10 h11 i1 i3 i4 i6 j1 j3 j4 j6 a0 a1 b0 b1 c0 c1 d0 d1 e0 e1 f0 f1
  obtain ⟨W0, hW0⟩ : ∃ W0, (((w.alloc (.cells #[.int .i64 a, .int .i64 b] 23)).alloc (.cells #[.int .i64 c, .int .i64 d] 23)).alloc (.cells #[.int .i64 e, .int .i64 f] 23)) = W0 := ⟨_, rfl⟩
  have P0 : Hid (Two W0 w.heap.size (.int .i64 a) (.int .i64 b)) := Lib.hid (by rw [← hW0]; exact ((Two.new _ _ _ _).alloc _).alloc _)
  have P1 : Hid (Two W0 (w.heap.size + 1) (.int .i64 c) (.int .i64 d)) := Lib.hid (by rw [← hW0]; exact (Two.at_ (by simp) _ _ _).alloc _)
  have P2 : Hid (Two W0 (w.heap.size + 1 + 1) (.int .i64 e) (.int .i64 f)) := Lib.hid (by rw [← hW0]; exact Two.at_ (by simp) _ _ _)
  have B0 : Hid (Below w.heap.size w W0) := Lib.hid (by rw [← hW0]; exact (((Below.refl _ _).alloc (Nat.le_refl _) _).alloc (by simp) _).alloc (by simp; omega) _)
  have hz0 : (w.heap.size + 1 + 1) < W0.heap.size := P2.out.lt
  have HW := Lib.hid hW0
  clear hW0
  go_enter Tryd.func9, Tryd.ntmps9
  go_upto_region 11 with (first
    | (rw [HW.out]; (go_at_call 17; ((with_reducible refine (C1.out _).mono ?_); rintro e w1 ⟨rfl, hb⟩; have hq : Below W0.heap.size W0 w1 := hb; have B1 := Lib.hid (Below.then_ B0.out hq); have P0 := Lib.hid (P0.out.stay hq); have P1 := Lib.hid (P1.out.stay hq); have P2 := Lib.hid (P2.out.stay hq); have oP0a := P0.out.c0; have oP0b := P0.out.c1; have oP0c := P0.out.lt; have oP1a := P1.out.c0; have oP1b := P1.out.c1; have oP1c := P1.out.lt; have oP2a := P2.out.c0; have oP2b := P2.out.c1; have oP2c := P2.out.lt; clear hq hb)))
    | (go_at_call 17; ((with_reducible refine (C2.out _).mono ?_); rintro e w2 ⟨rfl, hb⟩; have hq : Below w1.heap.size w1 w2 := below_new hb; have B2 := Lib.hid (Below.then_ B1.out hq); have P0 := Lib.hid (P0.out.stay hq); have P1 := Lib.hid (P1.out.stay hq); have P2 := Lib.hid (P2.out.stay hq); have N1 := Lib.hid (two_new hb); clear oP0a oP0b oP0c oP1a oP1b oP1c oP2a oP2b oP2c; have oP0a := P0.out.c0; have oP0b := P0.out.c1; have oP0c := P0.out.lt; have oP1a := P1.out.c0; have oP1b := P1.out.c1; have oP1c := P1.out.lt; have oP2a := P2.out.c0; have oP2b := P2.out.c1; have oP2c := P2.out.lt; have oN1a := N1.out.c0; have oN1b := N1.out.c1; have oN1c := N1.out.lt; clear hq hb))
    | (go_at_call 17; ((with_reducible refine (C3.out _).mono ?_); rintro e w3 ⟨rfl, hb⟩; have hq : Below w2.heap.size w2 w3 := below_new hb; have B3 := Lib.hid (Below.then_ B2.out hq); have P0 := Lib.hid (P0.out.stay hq); have P1 := Lib.hid (P1.out.stay hq); have P2 := Lib.hid (P2.out.stay hq); have N1 := Lib.hid (N1.out.stay hq); have N2 := Lib.hid (two_new hb); clear oP0a oP0b oP0c oP1a oP1b oP1c oP2a oP2b oP2c oN1a oN1b oN1c; have oP0a := P0.out.c0; have oP0b := P0.out.c1; have oP0c := P0.out.lt; have oP1a := P1.out.c0; have oP1b := P1.out.c1; have oP1c := P1.out.lt; have oP2a := P2.out.c0; have oP2b := P2.out.c1; have oP2c := P2.out.lt; have oN1a := N1.out.c0; have oN1b := N1.out.c1; have oN1c := N1.out.lt; have oN2a := N2.out.c0; have oN2b := N2.out.c1; have oN2c := N2.out.lt; clear hq hb))
    | (go_at_call 21; ((with_reducible refine (C4.out _).mono ?_); rintro e w4 ⟨rfl, hb⟩; have hq : Below w3.heap.size w3 w4 := below_new hb; have B4 := Lib.hid (Below.then_ B3.out hq); have P0 := Lib.hid (P0.out.stay hq); have P1 := Lib.hid (P1.out.stay hq); have P2 := Lib.hid (P2.out.stay hq); have N1 := Lib.hid (N1.out.stay hq); have N2 := Lib.hid (N2.out.stay hq); have N3 := Lib.hid (two_new hb); clear oP0a oP0b oP0c oP1a oP1b oP1c oP2a oP2b oP2c oN1a oN1b oN1c oN2a oN2b oN2c; have oP0a := P0.out.c0; have oP0b := P0.out.c1; have oP0c := P0.out.lt; have oP1a := P1.out.c0; have oP1b := P1.out.c1; have oP1c := P1.out.lt; have oP2a := P2.out.c0; have oP2b := P2.out.c1; have oP2c := P2.out.lt; have oN1a := N1.out.c0; have oN1b := N1.out.c1; have oN1c := N1.out.lt; have oN2a := N2.out.c0; have oN2b := N2.out.c1; have oN2c := N2.out.lt; have oN3a := N3.out.c0; have oN3b := N3.out.c1; have oN3c := N3.out.lt; clear hq hb))
    | (go_at_call 21; ((with_reducible refine (C5.out _).mono ?_); rintro e w5 ⟨rfl, hb⟩; have hq : Below w4.heap.size w4 w5 := below_new hb; have B5 := Lib.hid (Below.then_ B4.out hq); have P0 := Lib.hid (P0.out.stay hq); have P1 := Lib.hid (P1.out.stay hq); have P2 := Lib.hid (P2.out.stay hq); have N1 := Lib.hid (N1.out.stay hq); have N2 := Lib.hid (N2.out.stay hq); have N3 := Lib.hid (N3.out.stay hq); have N4 := Lib.hid (two_new hb); clear oP0a oP0b oP0c oP1a oP1b oP1c oP2a oP2b oP2c oN1a oN1b oN1c oN2a oN2b oN2c oN3a oN3b oN3c; have oP0a := P0.out.c0; have oP0b := P0.out.c1; have oP0c := P0.out.lt; have oP1a := P1.out.c0; have oP1b := P1.out.c1; have oP1c := P1.out.lt; have oP2a := P2.out.c0; have oP2b := P2.out.c1; have oP2c := P2.out.lt; have oN1a := N1.out.c0; have oN1b := N1.out.c1; have oN1c := N1.out.lt; have oN2a := N2.out.c0; have oN2b := N2.out.c1; have oN2c := N2.out.lt; have oN3a := N3.out.c0; have oN3b := N3.out.c1; have oN3c := N3.out.lt; have oN4a := N4.out.c0; have oN4b := N4.out.c1; have oN4c := N4.out.lt; clear hq hb))
    | (go_at_call 21; ((with_reducible refine (C6.out _).mono ?_); rintro e w6 ⟨rfl, hb⟩; have hq : Below w5.heap.size w5 w6 := below_new hb; have B6 := Lib.hid (Below.then_ B5.out hq); have P0 := Lib.hid (P0.out.stay hq); have P1 := Lib.hid (P1.out.stay hq); have P2 := Lib.hid (P2.out.stay hq); have N1 := Lib.hid (N1.out.stay hq); have N2 := Lib.hid (N2.out.stay hq); have N3 := Lib.hid (N3.out.stay hq); have N4 := Lib.hid (N4.out.stay hq); have N5 := Lib.hid (two_new hb); clear oP0a oP0b oP0c oP1a oP1b oP1c oP2a oP2b oP2c oN1a oN1b oN1c oN2a oN2b oN2c oN3a oN3b oN3c oN4a oN4b oN4c; have oP0a := P0.out.c0; have oP0b := P0.out.c1; have oP0c := P0.out.lt; have oP1a := P1.out.c0; have oP1b := P1.out.c1; have oP1c := P1.out.lt; have oP2a := P2.out.c0; have oP2b := P2.out.c1; have oP2c := P2.out.lt; have oN1a := N1.out.c0; have oN1b := N1.out.c1; have oN1c := N1.out.lt; have oN2a := N2.out.c0; have oN2b := N2.out.c1; have oN2c := N2.out.lt; have oN3a := N3.out.c0; have oN3b := N3.out.c1; have oN3c := N3.out.lt; have oN4a := N4.out.c0; have oN4b := N4.out.c1; have oN4c := N4.out.lt; have oN5a := N5.out.c0; have oN5b := N5.out.c1; have oN5c := N5.out.lt; clear hq hb))
    | (go_at_call 17; ((with_reducible refine (C7.out _).mono ?_); rintro e w7 ⟨rfl, hb⟩; have hq : Below w6.heap.size w6 w7 := below_new hb; have B7 := Lib.hid (Below.then_ B6.out hq); have P0 := Lib.hid (P0.out.stay hq); have P1 := Lib.hid (P1.out.stay hq); have P2 := Lib.hid (P2.out.stay hq); have N1 := Lib.hid (N1.out.stay hq); have N2 := Lib.hid (N2.out.stay hq); have N3 := Lib.hid (N3.out.stay hq); have N4 := Lib.hid (N4.out.stay hq); have N5 := Lib.hid (N5.out.stay hq); have N6 := Lib.hid (two_new hb); clear oP0a oP0b oP0c oP1a oP1b oP1c oP2a oP2b oP2c oN1a oN1b oN1c oN2a oN2b oN2c oN3a oN3b oN3c oN4a oN4b oN4c oN5a oN5b oN5c; have oP0a := P0.out.c0; have oP0b := P0.out.c1; have oP0c := P0.out.lt; have oP1a := P1.out.c0; have oP1b := P1.out.c1; have oP1c := P1.out.lt; have oP2a := P2.out.c0; have oP2b := P2.out.c1; have oP2c := P2.out.lt; have oN1a := N1.out.c0; have oN1b := N1.out.c1; have oN1c := N1.out.lt; have oN2a := N2.out.c0; have oN2b := N2.out.c1; have oN2c := N2.out.lt; have oN3a := N3.out.c0; have oN3b := N3.out.c1; have oN3c := N3.out.lt; have oN4a := N4.out.c0; have oN4b := N4.out.c1; have oN4c := N4.out.lt; have oN5a := N5.out.c0; have oN5b := N5.out.c1; have oN5c := N5.out.lt; have oN6a := N6.out.c0; have oN6b := N6.out.c1; have oN6c := N6.out.lt; clear hq hb))
    | (go_at_call 17; ((with_reducible refine (C8.out _).mono ?_); rintro e w8 ⟨rfl, hb⟩; have hq : Below w7.heap.size w7 w8 := below_new hb; have B8 := Lib.hid (Below.then_ B7.out hq); have P0 := Lib.hid (P0.out.stay hq); have P1 := Lib.hid (P1.out.stay hq); have P2 := Lib.hid (P2.out.stay hq); have N1 := Lib.hid (N1.out.stay hq); have N2 := Lib.hid (N2.out.stay hq); have N3 := Lib.hid (N3.out.stay hq); have N4 := Lib.hid (N4.out.stay hq); have N5 := Lib.hid (N5.out.stay hq); have N6 := Lib.hid (N6.out.stay hq); have N7 := Lib.hid (two_new hb); clear oP0a oP0b oP0c oP1a oP1b oP1c oP2a oP2b oP2c oN1a oN1b oN1c oN2a oN2b oN2c oN3a oN3b oN3c oN4a oN4b oN4c oN5a oN5b oN5c oN6a oN6b oN6c; have oP0a := P0.out.c0; have oP0b := P0.out.c1; have oP0c := P0.out.lt; have oP1a := P1.out.c0; have oP1b := P1.out.c1; have oP1c := P1.out.lt; have oP2a := P2.out.c0; have oP2b := P2.out.c1; have oP2c := P2.out.lt; have oN1a := N1.out.c0; have oN1b := N1.out.c1; have oN1c := N1.out.lt; have oN2a := N2.out.c0; have oN2b := N2.out.c1; have oN2c := N2.out.lt; have oN3a := N3.out.c0; have oN3b := N3.out.c1; have oN3c := N3.out.lt; have oN4a := N4.out.c0; have oN4b := N4.out.c1; have oN4c := N4.out.lt; have oN5a := N5.out.c0; have oN5b := N5.out.c1; have oN5c := N5.out.lt; have oN6a := N6.out.c0; have oN6b := N6.out.c1; have oN6c := N6.out.lt; have oN7a := N7.out.c0; have oN7b := N7.out.c1; have oN7c := N7.out.lt; clear hq hb)))
  go_cut [8, 10, 12, 20, 22, 113] (fun s8 s10 s12 s20 s22 s wx => s8 = .int .i64 k1 ∧ s10 = .int .i64 k1 ∧ s12 = .int .i64 k3 ∧ s20 = .int .i64 k7 ∧ s22 = .int .i64 k8 ∧ s = .bool false ∧ wx = w8.alloc (.cells #[.int .i64 x8, .int .i64 y8] 23))
  case first =>
    go_wp2_with fail
    all_goals first
      | (go_meet; exact ⟨congrArg (Value.int .i64) (by first | rfl | omega), congrArg (Value.int .i64) (by first | rfl | omega), congrArg (Value.int .i64) (by first | rfl | omega), congrArg (Value.int .i64) (by first | rfl | omega), congrArg (Value.int .i64) (by first | rfl | omega), rfl, rfl⟩)
      | (exfalso; have q := HA.out (by assumption) (by assumption) (by assumption) (by assumption); omega)
  case rest =>
    obtain ⟨rfl, rfl, rfl, rfl, rfl, rfl, rfl⟩ := hcut
    go_upto_region 15 with (first
    | (go_at_call 21; ((with_reducible refine (C10.out _).mono ?_); rintro e w9 ⟨rfl, hb⟩; have hq : Below w8.heap.size w8 w9 := below_new hb; have B9 := Lib.hid (Below.then_ B8.out hq); have P0 := Lib.hid (P0.out.stay hq); have P1 := Lib.hid (P1.out.stay hq); have P2 := Lib.hid (P2.out.stay hq); have N1 := Lib.hid (N1.out.stay hq); have N2 := Lib.hid (N2.out.stay hq); have N3 := Lib.hid (N3.out.stay hq); have N4 := Lib.hid (N4.out.stay hq); have N5 := Lib.hid (N5.out.stay hq); have N6 := Lib.hid (N6.out.stay hq); have N7 := Lib.hid (N7.out.stay hq); have N8 := Lib.hid (two_new hb); clear oP0a oP0b oP0c oP1a oP1b oP1c oP2a oP2b oP2c oN1a oN1b oN1c oN2a oN2b oN2c oN3a oN3b oN3c oN4a oN4b oN4c oN5a oN5b oN5c oN6a oN6b oN6c oN7a oN7b oN7c; have oP0a := P0.out.c0; have oP0b := P0.out.c1; have oP0c := P0.out.lt; have oP1a := P1.out.c0; have oP1b := P1.out.c1; have oP1c := P1.out.lt; have oP2a := P2.out.c0; have oP2b := P2.out.c1; have oP2c := P2.out.lt; have oN1a := N1.out.c0; have oN1b := N1.out.c1; have oN1c := N1.out.lt; have oN2a := N2.out.c0; have oN2b := N2.out.c1; have oN2c := N2.out.lt; have oN3a := N3.out.c0; have oN3b := N3.out.c1; have oN3c := N3.out.lt; have oN4a := N4.out.c0; have oN4b := N4.out.c1; have oN4c := N4.out.lt; have oN5a := N5.out.c0; have oN5b := N5.out.c1; have oN5c := N5.out.lt; have oN6a := N6.out.c0; have oN6b := N6.out.c1; have oN6c := N6.out.lt; have oN7a := N7.out.c0; have oN7b := N7.out.c1; have oN7c := N7.out.lt; have oN8a := N8.out.c0; have oN8b := N8.out.c1; have oN8c := N8.out.lt; clear hq hb))
    | (go_at_call 17; ((with_reducible refine (C11.out _).mono ?_); rintro e w10 ⟨rfl, hb⟩; have hq : Below w9.heap.size w9 w10 := below_new hb; have B10 := Lib.hid (Below.then_ B9.out hq); have P0 := Lib.hid (P0.out.stay hq); have P1 := Lib.hid (P1.out.stay hq); have P2 := Lib.hid (P2.out.stay hq); have N1 := Lib.hid (N1.out.stay hq); have N2 := Lib.hid (N2.out.stay hq); have N3 := Lib.hid (N3.out.stay hq); have N4 := Lib.hid (N4.out.stay hq); have N5 := Lib.hid (N5.out.stay hq); have N6 := Lib.hid (N6.out.stay hq); have N7 := Lib.hid (N7.out.stay hq); have N8 := Lib.hid (N8.out.stay hq); have N9 := Lib.hid (two_new hb); clear oP0a oP0b oP0c oP1a oP1b oP1c oP2a oP2b oP2c oN1a oN1b oN1c oN2a oN2b oN2c oN3a oN3b oN3c oN4a oN4b oN4c oN5a oN5b oN5c oN6a oN6b oN6c oN7a oN7b oN7c oN8a oN8b oN8c; have oP0a := P0.out.c0; have oP0b := P0.out.c1; have oP0c := P0.out.lt; have oP1a := P1.out.c0; have oP1b := P1.out.c1; have oP1c := P1.out.lt; have oP2a := P2.out.c0; have oP2b := P2.out.c1; have oP2c := P2.out.lt; have oN1a := N1.out.c0; have oN1b := N1.out.c1; have oN1c := N1.out.lt; have oN2a := N2.out.c0; have oN2b := N2.out.c1; have oN2c := N2.out.lt; have oN3a := N3.out.c0; have oN3b := N3.out.c1; have oN3c := N3.out.lt; have oN4a := N4.out.c0; have oN4b := N4.out.c1; have oN4c := N4.out.lt; have oN5a := N5.out.c0; have oN5b := N5.out.c1; have oN5c := N5.out.lt; have oN6a := N6.out.c0; have oN6b := N6.out.c1; have oN6c := N6.out.lt; have oN7a := N7.out.c0; have oN7b := N7.out.c1; have oN7c := N7.out.lt; have oN8a := N8.out.c0; have oN8b := N8.out.c1; have oN8c := N8.out.lt; have oN9a := N9.out.c0; have oN9b := N9.out.c1; have oN9c := N9.out.lt; clear hq hb)))
    go_cut [12, 14, 16, 18, 24, 26, 148] (fun s12 s14 s16 s18 s24 s26 s wx => s12 = .int .i64 k3 ∧ s14 = .int .i64 k4 ∧ s16 = .int .i64 k4 ∧ s18 = .int .i64 k6 ∧ s24 = .int .i64 k10 ∧ s26 = .int .i64 k11 ∧ s = .bool false ∧ wx = w10.alloc (.cells #[.int .i64 x11, .int .i64 y11] 23))
    case first =>
      go_wp2_with fail
      all_goals first
        | (go_meet; exact ⟨congrArg (Value.int .i64) (by first | rfl | omega), congrArg (Value.int .i64) (by first | rfl | omega), congrArg (Value.int .i64) (by first | rfl | omega), congrArg (Value.int .i64) (by first | rfl | omega), congrArg (Value.int .i64) (by first | rfl | omega), congrArg (Value.int .i64) (by first | rfl | omega), rfl, rfl⟩)
        | (exfalso; have q := HM.out (by assumption) (by assumption) (by assumption) (by assumption) (by assumption); omega)
    case rest =>
      obtain ⟨rfl, rfl, rfl, rfl, rfl, rfl, rfl, rfl⟩ := hcut
      go_wp2_with (go_at_call 23; ((with_reducible refine (C9.out _).mono ?_); rintro e w11 ⟨rfl, hb⟩; have hq : Below w10.heap.size w10 w11 := below_new hb; have B11 := Lib.hid (Below.then_ B10.out hq); have P0 := Lib.hid (P0.out.stay hq); have P1 := Lib.hid (P1.out.stay hq); have P2 := Lib.hid (P2.out.stay hq); have N1 := Lib.hid (N1.out.stay hq); have N2 := Lib.hid (N2.out.stay hq); have N3 := Lib.hid (N3.out.stay hq); have N4 := Lib.hid (N4.out.stay hq); have N5 := Lib.hid (N5.out.stay hq); have N6 := Lib.hid (N6.out.stay hq); have N7 := Lib.hid (N7.out.stay hq); have N8 := Lib.hid (N8.out.stay hq); have N9 := Lib.hid (N9.out.stay hq); have N10 := Lib.hid (two_new hb); clear oP0a oP0b oP0c oP1a oP1b oP1c oP2a oP2b oP2c oN1a oN1b oN1c oN2a oN2b oN2c oN3a oN3b oN3c oN4a oN4b oN4c oN5a oN5b oN5c oN6a oN6b oN6c oN7a oN7b oN7c oN8a oN8b oN8c oN9a oN9b oN9c; have oP0a := P0.out.c0; have oP0b := P0.out.c1; have oP0c := P0.out.lt; have oP1a := P1.out.c0; have oP1b := P1.out.c1; have oP1c := P1.out.lt; have oP2a := P2.out.c0; have oP2b := P2.out.c1; have oP2c := P2.out.lt; have oN1a := N1.out.c0; have oN1b := N1.out.c1; have oN1c := N1.out.lt; have oN2a := N2.out.c0; have oN2b := N2.out.c1; have oN2c := N2.out.lt; have oN3a := N3.out.c0; have oN3b := N3.out.c1; have oN3c := N3.out.lt; have oN4a := N4.out.c0; have oN4b := N4.out.c1; have oN4c := N4.out.lt; have oN5a := N5.out.c0; have oN5b := N5.out.c1; have oN5c := N5.out.lt; have oN6a := N6.out.c0; have oN6b := N6.out.c1; have oN6c := N6.out.lt; have oN7a := N7.out.c0; have oN7b := N7.out.c1; have oN7c := N7.out.lt; have oN8a := N8.out.c0; have oN8b := N8.out.c1; have oN8c := N8.out.lt; have oN9a := N9.out.c0; have oN9b := N9.out.c1; have oN9c := N9.out.lt; have oN10a := N10.out.c0; have oN10b := N10.out.c1; have oN10c := N10.out.lt; clear hq hb))
      obtain ⟨w12, hw12⟩ : ∃ w12, w11.alloc (.cells #[.int .i64 1, .int .i64 1] 23) = w12 := ⟨_, rfl⟩
      have D9 : Two w12 w11.heap.size (.int .i64 1) (.int .i64 1) := by rw [← hw12]; exact Two.new w11 _ _ _
      have B12 : Hid (Below w.heap.size w w12) := Lib.hid (by rw [← hw12]; exact B11.out.alloc B11.out.size _)
      rw [hw12]
      clear hw12
      go_region_held3 (fun w' => w'.cell? ⟨w11.heap.size, 0, none⟩ = some (.int .i64 1) ∧ w'.cell? ⟨w11.heap.size, 1, none⟩ = some (.int .i64 1)) (first | assumption | exact ⟨D9.drew.c0, D9.drew.c1⟩ | fail)
        (first
          | (go_at_call 29; ((with_reducible refine (ofCode _ _ _).mono ?_); rintro e wx ⟨rfl, hb⟩; have HX : Hid (Below w12.heap.size w12 wx) := Lib.hid (by first | exact below_drew hb | exact Below.then_ HX.out hb); have X9 := D9.stay HX.out; have K : wx.cell? ⟨w11.heap.size, 0, none⟩ = some (.int .i64 1) ∧ wx.cell? ⟨w11.heap.size, 1, none⟩ = some (.int .i64 1) := ⟨X9.c0, X9.c1⟩; clear hb))
          | (go_at_call 14; ((with_reducible refine (awake_any _ (by first | exact (HT.out.later B12.out).later HX.out | exact (HT.out.later B12.out).later (Below.refl _ _).drew)).mono ?_); rintro e wx ⟨rfl, hb⟩; have HX : Hid (Below w12.heap.size w12 wx) := Lib.hid (by first | exact below_drew hb | exact Below.then_ HX.out hb); have X9 := D9.stay HX.out; have K : wx.cell? ⟨w11.heap.size, 0, none⟩ = some (.int .i64 1) ∧ wx.cell? ⟨w11.heap.size, 1, none⟩ = some (.int .i64 1) := ⟨X9.c0, X9.c1⟩; clear hb)))
      all_goals
        go_wp2
        go_ret
        exact ⟨rfl, B12.out.trans (HX.out.mono B12.out.size)⟩
theorem ratField_any (a b c d e f : Int) (w : World) (a0 : -9223372036854775808 ≤ a) (a1 : a ≤ 9223372036854775807) (b0 : -9223372036854775808 ≤ b) (b1 : b ≤ 9223372036854775807) (c0 : -9223372036854775808 ≤ c) (c1 : c ≤ 9223372036854775807) (d0 : -9223372036854775808 ≤ d) (d1 : d ≤ 9223372036854775807) (e0 : -9223372036854775808 ≤ e) (e1 : e ≤ 9223372036854775807) (f0 : -9223372036854775808 ≤ f) (f1 : f ≤ 9223372036854775807) (ht : Tab w) :
    Calls Tryd.prog 9 #[rv a b, rv c d, rv e f] w (tBool w true) := by
  obtain ⟨x, y, k, h⟩ : ∃ x y k, divS a b a b = (x, y, k) := ⟨_, _, _, rfl⟩
  by_cases hk : k = 0
  · subst hk
    obtain ⟨rfl, rfl⟩ := div_self' h
    exact ratField_yes a b c d e f w a0 a1 b0 b1 c0 c1 d0 d1 e0 e1 f0 f1 ht h
  · exact ratField_no a b c d e f w a0 a1 b0 b1 c0 c1 d0 d1 e0 e1 f0 f1 ht x y k h hk
end Go.Proofs.YtjighmmfaedgbaaDoor.RatW
