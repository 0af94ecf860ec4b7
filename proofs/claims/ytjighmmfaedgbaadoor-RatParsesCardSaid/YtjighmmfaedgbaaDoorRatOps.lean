/-
  What multiplied and added of package rat return.
-/
import Derived.Test.YtjighmmfaedgbaaDoorRatNume
import Derived.Test.YtjighmmfaedgbaaDoorRatLow
namespace Go.Proofs.YtjighmmfaedgbaaDoor.RatW
open Go Go.RowKit Go.Proofs.YtjighmmfaedgbaaDoor.RatM

theorem keep33 {w : World} {g g' : Nat} {x y z x' y' z' : Value} (h : Three w g x y z) (h' : Three w g' x' y' z') : w.cell? ⟨g, 0, none⟩ = some x ∧ w.cell? ⟨g, 1, none⟩ = some y ∧ w.cell? ⟨g, 2, none⟩ = some z ∧ w.cell? ⟨g', 0, none⟩ = some x' ∧ w.cell? ⟨g', 1, none⟩ = some y' ∧ w.cell? ⟨g', 2, none⟩ = some z' := ⟨h.c0, h.c1, h.c2, h'.c0, h'.c1, h'.c2⟩
theorem Three.drewN {w : World} {g : Nat} {x y z : Value} (h : Three w g x y z) (n : Nat) : Three (w.drewN n) g x y z := ⟨h.lt, h.c0, h.c1, h.c2, h.f⟩
theorem Two.drewN {w : World} {g : Nat} {x y : Value} (h : Two w g x y) (n : Nat) : Two (w.drewN n) g x y := ⟨h.lt, h.c0, h.c1, h.f0, h.f1⟩
set_option maxRecDepth 100000 in
set_option maxHeartbeats 16000000 in
theorem mulCode2 (s1 : Bool) (xn xd : Nat) (s2 : Bool) (yn yd : Nat) (w : World) (a1 : xn ≤ 9223372036854775808) (a2 : xd ≤ 9223372036854775808) (a3 : yn ≤ 9223372036854775808) (a4 : yd ≤ 9223372036854775808)
    (hx : xn.gcd xd = 1) (hy : yn.gcd yd = 1) (hxd : 0 < xd) (hyd : 0 < yd) :
    Calls Tryd.prog 45 #[fv s1 xn xd, fv s2 yn yd] w (tRes w (quo (s1 != s2) (xn * yn) (xd * yd))) := by
  rw [← mul_low hx hy hxd hyd]
  have R1 := fun w => reduced_any xn yd w (by omega) (by omega) (.inr hyd)
  have R2 := fun w => reduced_any yn xd w (by omega) (by omega) (.inr hxd)
  unfold tRed at R1 R2
  have b1 : xn / xn.gcd yd < 18446744073709551616 := Nat.lt_of_le_of_lt (Nat.div_le_self _ _) (by omega)
  have b2 : yn / yn.gcd xd < 18446744073709551616 := Nat.lt_of_le_of_lt (Nat.div_le_self _ _) (by omega)
  have b3 : xd / yn.gcd xd < 18446744073709551616 := Nat.lt_of_le_of_lt (Nat.div_le_self _ _) (by omega)
  have b4 : yd / xn.gcd yd < 18446744073709551616 := Nat.lt_of_le_of_lt (Nat.div_le_self _ _) (by omega)
  generalize xn / xn.gcd yd = p at *
  generalize yd / xn.gcd yd = q at *
  generalize yn / yn.gcd xd = r at *
  generalize xd / yn.gcd xd = t at *
  have TA := Lib.hid (fun w => timesX p r w b1 b2)
  have TB := Lib.hid (fun w => timesX t q w b3 b4)
  have FT := Lib.hid (fun w => fittedCode (s1 != s2) (p * r) (t * q) w)
  have R1 := Lib.hid R1
  have R2 := Lib.hid R2
  clear b1 b2 b3 b4 a1 a2 a3 a4 hx hy hxd hyd
  go_enter Tryd.func45, Tryd.ntmps45
  go_wp2_with (first
    | (go_at_call 34; ((with_reducible refine (R1.out _).mono ?_); rintro e w' ⟨rfl, m1, rfl⟩))
    | (go_at_call 34; ((with_reducible refine (R2.out _).mono ?_); rintro e w' ⟨rfl, m2, rfl⟩)))
  obtain ⟨w9, hw9⟩ : ∃ w9, ((((((((w.alloc (.cells #[.bool s1, .int .u64 xn, .int .u64 xd] 54)).alloc (.cells #[.bool s2, .int .u64 yn, .int .u64 yd] 54)).alloc (.cells #[.int .i64 0, .int .i64 0] 23)).drewN m1).setCell ⟨w.heap.size, 1, none⟩ (.int .u64 p)).setCell ⟨w.heap.size + 1, 2, none⟩ (.int .u64 q)).drewN m2).setCell ⟨w.heap.size + 1, 1, none⟩ (.int .u64 r)).setCell ⟨w.heap.size, 2, none⟩ (.int .u64 t) = w9 := ⟨_, rfl⟩
  rw [hw9]
  have D2 : Three w9 w.heap.size (.bool s1) (.int .u64 p) (.int .u64 t) := by
    rw [← hw9]
    exact (((((((((Three.at_ rfl _ _ _ _).alloc _).alloc _).drewN m1).set1 _).far (by omega)).drewN m2).far (by omega)).set2 _)
  have D3 : Three w9 (w.heap.size + 1) (.bool s2) (.int .u64 r) (.int .u64 q) := by
    rw [← hw9]
    exact ((((((((Three.at_ (by simp) _ _ _ _).alloc _).drewN m1).far (by omega)).set2 _).drewN m2).set1 _).far (by omega))
  have D4 : Two w9 (w.heap.size + 1 + 1) (.int .i64 0) (.int .i64 0) := by
    rw [← hw9]
    exact (((((((Two.at_ (by simp) _ _ _).drewN m1).far (by omega)).far (by omega)).drewN m2).far (by omega)).far (by omega))
  have BW : Hid (Below w.heap.size w w9) := Lib.hid (by
    rw [← hw9]
    exact (((below_drewN (((below_drewN ((((Below.refl _ _).alloc (Nat.le_refl _) _).alloc (by simp) _).alloc (by simp; omega) _) m1).setCell (Nat.le_refl _) _).setCell (by simp) _) m2).setCell (by simp) _).setCell (Nat.le_refl _) _))
  have hz : w.heap.size + 1 + 1 < w9.heap.size := D4.lt
  clear hw9
  go_region_held3 (fun w' => w'.cell? ⟨w.heap.size, 0, none⟩ = some (.bool s1) ∧ w'.cell? ⟨w.heap.size, 1, none⟩ = some (.int .u64 p) ∧ w'.cell? ⟨w.heap.size, 2, none⟩ = some (.int .u64 t) ∧ w'.cell? ⟨w.heap.size + 1, 0, none⟩ = some (.bool s2) ∧ w'.cell? ⟨w.heap.size + 1, 1, none⟩ = some (.int .u64 r) ∧ w'.cell? ⟨w.heap.size + 1, 2, none⟩ = some (.int .u64 q))
    (first
      | assumption
      | exact keep33 D2.drew D3.drew
      | exact keep33 (D2.alloc _).drew (D3.alloc _).drew
      | exact keep33 ((D2.alloc _).alloc _).drew ((D3.alloc _).alloc _).drew
      | exact keep33 ((E2.far (by omega)).far (by omega)) ((E3.far (by omega)).far (by omega))
      | fail)
    (first
      | (go_at_call 61; ((with_reducible refine (TA.out _).mono ?_); rintro e w' ⟨rfl, rfl⟩))
      | (go_at_call 61; ((with_reducible refine (TB.out _).mono ?_); rintro e w' ⟨rfl, rfl⟩))
      | (go_at_call 36; refine (FT.out _).mono ?_; rintro e w1 h1; obtain ⟨x, y, k, hr, rfl, hb⟩ := tRes_open h1; have HR := Lib.hid hr; have HB : Hid (Below w9.heap.size w9 w1) := Lib.hid (below_new (below_new (below_drew hb))); have E2 := D2.stay HB.out; have E3 := D3.stay HB.out; obtain ⟨_, q0, q1, q2, q3⟩ := D4.stay HB.out; have K := keep33 E2 E3; clear h1 hr hb))
  all_goals
    go_wp2
    refine bodyPost_ret (v := .tuple #[.agg #[.int .i64 x, .int .i64 y], .int .i64 k]) (by simp [results, Tryd.results45, go_sem, q0, q1]) rfl ?_
    exact ⟨by rw [resV_mk HR.out.symm], ((BW.out.trans (HB.out.mono BW.out.size)).setCell (by simp; omega) _).setCell (by simp; omega) _⟩
end Go.Proofs.YtjighmmfaedgbaaDoor.RatW
