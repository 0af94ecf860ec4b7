/-
  The walk of RatMakes.
-/
import Derived.Test.YtjighmmfaedgbaaDoorRatAwake
import Derived.Test.YtjighmmfaedgbaaDoorRatLawM
namespace Go.Proofs.YtjighmmfaedgbaaDoor.RatW
open Go Go.RowKit Go.Proofs.YtjighmmfaedgbaaDoor.RatM

set_option maxRecDepth 100000 in
set_option maxHeartbeats 32000000 in
theorem ratMakes_no (n d : Int) (w : World) (n0 : -9223372036854775808 ≤ n) (n1 : n ≤ 9223372036854775807) (d0 : -9223372036854775808 ≤ d) (d1 : d ≤ 9223372036854775807) (ht : Tab w) (x y k : Int) (h : makeS n d = (x, y, k)) (hk : ¬ k = 0) :
    Calls Tryd.prog 3 #[.int .i64 n, .int .i64 d] w (tBool w true) := by
  have HT := Lib.hid ht
  clear ht
  have CA : ∀ w, Calls Tryd.prog 12 #[.int .i64 n, .int .i64 d] w fun e w' => e = .returned (.tuple #[.agg #[.int .i64 x, .int .i64 y], .int .i64 k]) ∧ Below w.heap.size w w' := fun w => by
    have q := makeCode n d w n0 n1 d0 d1; rw [h] at q; exact q
  have CR : ∀ w, Calls Tryd.prog 13 #[.int .i64 n, .int .i64 d] w fun e w' => e = .returned (.tuple #[.agg #[.int .i64 x, .int .i64 y], .int .i64 k]) ∧ Below w.heap.size w w' := fun w => by
    have q := makeRef_any n d w n0 n1 d0 d1; rw [h] at q; exact q
  have CA := Lib.hid CA
  have CR := Lib.hid CR
  clear h
  have B0 : Hid (Below w.heap.size w w) := Lib.hid (Below.refl _ _)
  go_enter Tryd.func3, Tryd.ntmps3
  go_wp2_with (first
    | ((go_at_call 12; ((with_reducible refine (CA.out _).mono ?_); rintro e w1 ⟨rfl, hb⟩; have hq : Below w.heap.size w w1 := hb; have B1 := Lib.hid (Below.then_ B0.out hq); clear hq hb)))
    | (go_at_call 13; ((with_reducible refine (CR.out _).mono ?_); rintro e w2 ⟨rfl, hb⟩; have hq : Below w1.heap.size w1 w2 := below_new hb; have B2 := Lib.hid (Below.then_ B1.out hq); have N1 := Lib.hid (two_new hb); have oN1a := N1.out.c0; have oN1b := N1.out.c1; have oN1c := N1.out.lt; clear hq hb))
    | (go_at_call 14; ((with_reducible refine (awake_any _ (by first | exact HT.out.later B2.out | exact HT.out.later (B2.out.alloc B2.out.size _))).mono ?_); rintro e w3 ⟨rfl, hb⟩; have hq : Below w2.heap.size w2 w3 := below_new hb; have B3 := Lib.hid (Below.then_ B2.out hq); have N1 := Lib.hid (N1.out.stay hq); have N2 := Lib.hid (two_new hb); clear oN1a oN1b oN1c; have oN1a := N1.out.c0; have oN1b := N1.out.c1; have oN1c := N1.out.lt; have oN2a := N2.out.c0; have oN2b := N2.out.c1; have oN2c := N2.out.lt; clear hq hb)))
  go_ret
  exact ⟨rfl, B3.out⟩
set_option maxRecDepth 100000 in
set_option maxHeartbeats 32000000 in
theorem ratMakes_yes (n d : Int) (w : World) (n0 : -9223372036854775808 ≤ n) (n1 : n ≤ 9223372036854775807) (d0 : -9223372036854775808 ≤ d) (d1 : d ≤ 9223372036854775807) (ht : Tab w) (x y : Int) (h : makeS n d = (x, y, 0)) :
    Calls Tryd.prog 3 #[.int .i64 n, .int .i64 d] w (tBool w true) := by
  have HT := Lib.hid ht
  clear ht
  have CA : ∀ w, Calls Tryd.prog 12 #[.int .i64 n, .int .i64 d] w fun e w' => e = .returned (.tuple #[.agg #[.int .i64 x, .int .i64 y], .int .i64 0]) ∧ Below w.heap.size w w' := fun w => by
    have q := makeCode n d w n0 n1 d0 d1; rw [h] at q; exact q
  have CR : ∀ w, Calls Tryd.prog 13 #[.int .i64 n, .int .i64 d] w fun e w' => e = .returned (.tuple #[.agg #[.int .i64 x, .int .i64 y], .int .i64 0]) ∧ Below w.heap.size w w' := fun w => by
    have q := makeRef_any n d w n0 n1 d0 d1; rw [h] at q; exact q
  obtain ⟨hx, hy⟩ := make_i64 h
  obtain ⟨h2, hv⟩ := make_back h
  have CB : ∀ w, Calls Tryd.prog 12 #[.int .i64 x, .int .i64 y] w fun e w' => e = .returned (.tuple #[.agg #[.int .i64 x, .int .i64 y], .int .i64 0]) ∧ Below w.heap.size w w' := fun w => by
    have q := makeCode x y w hx.1 hx.2 hy.1 hy.2; rw [h2] at q; exact q
  have CV : ∀ w, Calls Tryd.prog 15 #[rv x y] w fun e w' => e = .returned (.bool true) ∧ Below w.heap.size w w' := fun w => by
    have q := validCode x y w hx.1 hx.2 hy.1 hy.2; rw [hv] at q; exact q
  have CB := Lib.hid CB
  have CV := Lib.hid CV
  clear h2 hv
  have CA := Lib.hid CA
  have CR := Lib.hid CR
  clear h
  have B0 : Hid (Below w.heap.size w w) := Lib.hid (Below.refl _ _)
  go_enter Tryd.func3, Tryd.ntmps3
  go_wp2_with (first
    | ((go_at_call 12; ((with_reducible refine (CA.out _).mono ?_); rintro e w1 ⟨rfl, hb⟩; have hq : Below w.heap.size w w1 := hb; have B1 := Lib.hid (Below.then_ B0.out hq); clear hq hb)))
    | (go_at_call 13; ((with_reducible refine (CR.out _).mono ?_); rintro e w2 ⟨rfl, hb⟩; have hq : Below w1.heap.size w1 w2 := below_new hb; have B2 := Lib.hid (Below.then_ B1.out hq); have N1 := Lib.hid (two_new hb); have oN1a := N1.out.c0; have oN1b := N1.out.c1; have oN1c := N1.out.lt; clear hq hb))
    | (go_at_call 12; ((with_reducible refine (CB.out _).mono ?_); rintro e w3 ⟨rfl, hb⟩; have hq : Below w2.heap.size w2 w3 := below_new hb; have B3 := Lib.hid (Below.then_ B2.out hq); have N1 := Lib.hid (N1.out.stay hq); have N2 := Lib.hid (two_new hb); clear oN1a oN1b oN1c; have oN1a := N1.out.c0; have oN1b := N1.out.c1; have oN1c := N1.out.lt; have oN2a := N2.out.c0; have oN2b := N2.out.c1; have oN2c := N2.out.lt; clear hq hb))
    | (go_at_call 15; ((with_reducible refine (CV.out _).mono ?_); rintro e w4 ⟨rfl, hb⟩; have hq : Below w3.heap.size w3 w4 := below_new hb; have B4 := Lib.hid (Below.then_ B3.out hq); have N1 := Lib.hid (N1.out.stay hq); have N2 := Lib.hid (N2.out.stay hq); have N3 := Lib.hid (two_new hb); clear oN1a oN1b oN1c oN2a oN2b oN2c; have oN1a := N1.out.c0; have oN1b := N1.out.c1; have oN1c := N1.out.lt; have oN2a := N2.out.c0; have oN2b := N2.out.c1; have oN2c := N2.out.lt; have oN3a := N3.out.c0; have oN3b := N3.out.c1; have oN3c := N3.out.lt; clear hq hb))
    | (go_at_call 14; ((with_reducible refine (awake_any _ (by first | exact HT.out.later B4.out | exact HT.out.later (B4.out.alloc B4.out.size _))).mono ?_); rintro e w5 ⟨rfl, hb⟩; have hq : Below w4.heap.size w4 w5 := hb; have B5 := Lib.hid (Below.then_ B4.out hq); have N1 := Lib.hid (N1.out.stay hq); have N2 := Lib.hid (N2.out.stay hq); have N3 := Lib.hid (N3.out.stay hq); clear oN1a oN1b oN1c oN2a oN2b oN2c oN3a oN3b oN3c; have oN1a := N1.out.c0; have oN1b := N1.out.c1; have oN1c := N1.out.lt; have oN2a := N2.out.c0; have oN2b := N2.out.c1; have oN2c := N2.out.lt; have oN3a := N3.out.c0; have oN3b := N3.out.c1; have oN3c := N3.out.lt; clear hq hb)))
  go_ret
  exact ⟨rfl, B5.out⟩
theorem ratMakes_any (n d : Int) (w : World) (n0 : -9223372036854775808 ≤ n) (n1 : n ≤ 9223372036854775807) (d0 : -9223372036854775808 ≤ d) (d1 : d ≤ 9223372036854775807) (ht : Tab w) :
    Calls Tryd.prog 3 #[.int .i64 n, .int .i64 d] w (tBool w true) := by
  obtain ⟨x, y, k, h⟩ : ∃ x y k, makeS n d = (x, y, k) := ⟨_, _, _, rfl⟩
  by_cases hk : k = 0
  · subst hk; exact ratMakes_yes n d w n0 n1 d0 d1 ht x y h
  · exact ratMakes_no n d w n0 n1 d0 d1 ht x y k h hk
end Go.Proofs.YtjighmmfaedgbaaDoor.RatW
