/-
  What package rat's 'Compare' returns.
-/
import Derived.Test.YtjighmmfaedgbaaDoorRatCodeA
namespace Go.Proofs.YtjighmmfaedgbaaDoor.RatW
open Go Go.RowKit Go.Proofs.YtjighmmfaedgbaaDoor.RatM

theorem tCmp_mk {w w' : World} {r s : Int × Int} (h : r = s) (hb : Below w.heap.size w w') : tCmp w s (.returned (.tuple #[.int .i64 r.1, .int .i64 r.2])) w' := ⟨by rw [h], hb⟩
theorem cmp_same {a b : Int} (h1 : validS a b = true) : ((0 : Int), (0 : Int)) = cmpS a b a b := by
  unfold cmpS
  rw [h1]
  simp only [Bool.and_self, if_true]
  rw [if_neg (by omega)]
theorem cmp_ne {a b c d : Int} (h1 : validS a b = true) (h2 : validS c d = true) (h : ¬ (a = c ∧ b = d)) : ¬ a * d - c * b = 0 := by
  intro e
  obtain ⟨b2, g1⟩ := valid_iff.1 h1
  obtain ⟨d2, g2⟩ := valid_iff.1 h2
  have e' : a * d = c * b := by omega
  have hx : a.natAbs * d.natAbs = c.natAbs * b.natAbs := by rw [← Int.natAbs_mul, ← Int.natAbs_mul, e']
  obtain ⟨k1, k2⟩ := eq_of_cross g1 g2 (by omega) (by omega) hx
  have hbd : b = d := by omega
  subst hbd
  exact h ⟨Int.eq_of_mul_eq_mul_right (by omega) e', rfl⟩
theorem num_code {a b c d : Int} (h1 : validS a b = true) (h2 : validS c d = true) : sg (numS (decide (a < 0)) a.natAbs b.natAbs (!(decide (c < 0))) c.natAbs d.natAbs).1 (numS (decide (a < 0)) a.natAbs b.natAbs (!(decide (c < 0))) c.natAbs d.natAbs).2 = a * d - c * b := by
  have b2 := (valid_iff.1 h1).1
  have d2 := (valid_iff.1 h2).1
  rw [numS_sg, sg_not, sg_cross d2, sg_cross b2]
  omega
set_option maxRecDepth 100000 in
set_option maxHeartbeats 16000000 in
theorem compareCodeSame (a b : Int) (w : World) (a0 : -9223372036854775808 ≤ a) (a1 : a ≤ 9223372036854775807) (b0 : -9223372036854775808 ≤ b) (b1 : b ≤ 9223372036854775807) (h1 : validS a b = true) :
    Calls Tryd.prog 25 #[rv a b, rv a b] w (tCmp w (cmpS a b a b)) := by
  obtain ⟨W0, hW0⟩ : ∃ W0, (w.alloc (.cells #[.int .i64 a, .int .i64 b] 23)).alloc (.cells #[.int .i64 a, .int .i64 b] 23) = W0 := ⟨_, rfl⟩
  have H2 : Hid (Two W0 w.heap.size (.int .i64 a) (.int .i64 b)) := Lib.hid (by rw [← hW0]; exact (Two.new _ _ _ _).alloc _)
  have H3 : Hid (Two W0 (w.heap.size + 1) (.int .i64 a) (.int .i64 b)) := Lib.hid (by rw [← hW0]; exact Two.at_ (by simp) _ _ _)
  have HBW : Hid (Below w.heap.size w W0) := Lib.hid (by rw [← hW0]; exact ((Below.refl _ _).alloc (Nat.le_refl _) _).alloc (by simp) _)
  have hz0 : w.heap.size + 1 < W0.heap.size := H3.out.lt
  have HW := Lib.hid hW0
  clear hW0
  have HS := Lib.hid (cmp_same h1)
  have V1 := fun w => validCode a b w a0 a1 b0 b1
  rw [h1] at V1
  have V1 := Lib.hid V1
  clear h1
  have e0 := H2.out.c0
  have e1 := H2.out.c1
  go_enter Tryd.func25, Tryd.ntmps25
  go_wp2_with (first
    | (rw [HW.out]; (go_at_call 15; ((with_reducible refine (V1.out _).mono ?_); rintro e w1 ⟨rfl, hb1⟩; have HB1 := Lib.hid hb1; have f0 := (H3.out.stay hb1).c0; have f1 := (H3.out.stay hb1).c1; clear hb1)))
    | (go_at_call 15; ((with_reducible refine (V1.out _).mono ?_); rintro e w2 ⟨rfl, hb2⟩; have HB2 : Hid (Below W0.heap.size W0 w2) := Lib.hid (Below.then_ HB1.out hb2); clear f0 f1 e0 e1 hb2; have e0 := (H2.out.stay HB2.out).c0; have e1 := (H2.out.stay HB2.out).c1; have f0 := (H3.out.stay HB2.out).c0; have f1 := (H3.out.stay HB2.out).c1)))
  go_ret2
  exact ⟨ret2c HS.out, HBW.out.trans (HB2.out.mono HBW.out.size)⟩
set_option maxRecDepth 100000 in
set_option maxHeartbeats 16000000 in
theorem compareCodeNe (a b c d : Int) (w : World) (a0 : -9223372036854775808 ≤ a) (a1 : a ≤ 9223372036854775807) (b0 : -9223372036854775808 ≤ b) (b1 : b ≤ 9223372036854775807)
    (c0 : -9223372036854775808 ≤ c) (c1 : c ≤ 9223372036854775807) (d0 : -9223372036854775808 ≤ d) (d1 : d ≤ 9223372036854775807) (h1 : validS a b = true) (h2 : validS c d = true) (hne : ¬ (a = c ∧ b = d)) :
    Calls Tryd.prog 25 #[rv a b, rv c d] w (tCmp w (cmpS a b c d)) := by
  obtain ⟨W0, hW0⟩ : ∃ W0, (w.alloc (.cells #[.int .i64 a, .int .i64 b] 23)).alloc (.cells #[.int .i64 c, .int .i64 d] 23) = W0 := ⟨_, rfl⟩
  have H2 : Hid (Two W0 w.heap.size (.int .i64 a) (.int .i64 b)) := Lib.hid (by rw [← hW0]; exact (Two.new _ _ _ _).alloc _)
  have H3 : Hid (Two W0 (w.heap.size + 1) (.int .i64 c) (.int .i64 d)) := Lib.hid (by rw [← hW0]; exact Two.at_ (by simp) _ _ _)
  have HBW : Hid (Below w.heap.size w W0) := Lib.hid (by rw [← hW0]; exact ((Below.refl _ _).alloc (Nat.le_refl _) _).alloc (by simp) _)
  have hz0 : w.heap.size + 1 < W0.heap.size := H3.out.lt
  have HW := Lib.hid hW0
  clear hW0
  have b2 := (valid_iff.1 h1).1
  have d2 := (valid_iff.1 h2).1
  have EA := fun w => exactCode a b w a0 a1 b0 b1
  have EC := fun w => exactCode c d w c0 c1 d0 d1
  have NM := fun w => numCode (decide (a < 0)) a.natAbs b.natAbs (!(decide (c < 0))) c.natAbs d.natAbs w (by omega) (by omega) (by omega) (by omega)
  have hsg := num_code h1 h2
  obtain ⟨ng, T, hnum⟩ : ∃ ng T, numS (decide (a < 0)) a.natAbs b.natAbs (!(decide (c < 0))) c.natAbs d.natAbs = (ng, T) := ⟨_, _, rfl⟩
  rw [hnum] at NM hsg
  clear hnum
  have hT : 0 < T := by
    rcases Nat.eq_zero_or_pos T with rfl | hT
    · exfalso
      apply cmp_ne h1 h2 hne
      rw [← hsg]
      cases ng <;> rfl
    · exact hT
  have HRES : Hid ((if ng then (-1 : Int) else 1, (0 : Int)) = cmpS a b c d) := Lib.hid (by
    cases ng
    · exact cmp_pos h1 h2 hT hsg
    · exact cmp_neg h1 h2 hT hsg)
  have FIN := NM
  unfold tNum at FIN
  clear hsg hT NM
  have V1 := fun w => validCode a b w a0 a1 b0 b1
  have V2 := fun w => validCode c d w c0 c1 d0 d1
  rw [h1] at V1
  rw [h2] at V2
  generalize decide (a < 0) = s1 at *
  generalize decide (c < 0) = s2 at *
  generalize a.natAbs = p1 at *
  generalize b.natAbs = r1 at *
  generalize c.natAbs = p2 at *
  generalize d.natAbs = r2 at *
  have NG := Lib.hid (fun w => negCode s2 p2 r2 w)
  have EA := Lib.hid EA
  have EC := Lib.hid EC
  have FIN := Lib.hid FIN
  have V1 := Lib.hid V1
  have V2 := Lib.hid V2
  clear h1 h2
  have e0 := H2.out.c0
  have e1 := H2.out.c1
  have e2 := H3.out.c0
  have e3 := H3.out.c1
  have HN := Lib.hid hne
  clear hne
  go_enter Tryd.func25, Tryd.ntmps25
  go_wp2_with (first
    | (rw [HW.out]; (go_at_call 15; ((with_reducible refine (V1.out _).mono ?_); rintro e w1 ⟨rfl, hb1⟩; have HB1 := Lib.hid hb1; have f0 := (H3.out.stay hb1).c0; have f1 := (H3.out.stay hb1).c1; clear hb1)))
    | (go_at_call 15; ((with_reducible refine (V2.out _).mono ?_); rintro e w2 ⟨rfl, hb2⟩; have HB2 : Hid (Below W0.heap.size W0 w2) := Lib.hid (Below.then_ HB1.out hb2); clear f0 f1 e0 e1 e2 e3 hb2; have e0 := (H2.out.stay HB2.out).c0; have e1 := (H2.out.stay HB2.out).c1; have e2 := (H3.out.stay HB2.out).c0; have e3 := (H3.out.stay HB2.out).c1)))
  all_goals (try (exfalso; exact HN.out ⟨by assumption, by assumption⟩))
  all_goals (first | (rename a = c => hac; clear hac) | skip)
  all_goals
    have D2 := H2.out.stay HB2.out
    have D3 := H3.out.stay HB2.out
    have hz2 : W0.heap.size ≤ w2.heap.size := HB2.out.size
    clear e0 e1 e2 e3
    go_region_held3 (fun w' => w'.cell? ⟨w.heap.size, 0, none⟩ = some (.int .i64 a) ∧ w'.cell? ⟨w.heap.size, 1, none⟩ = some (.int .i64 b) ∧ w'.cell? ⟨w.heap.size + 1, 0, none⟩ = some (.int .i64 c) ∧ w'.cell? ⟨w.heap.size + 1, 1, none⟩ = some (.int .i64 d)) (first | assumption | exact s4 D2.drew D3.drew | exact s4 (D2.drew.alloc _) (D3.drew.alloc _) | exact s4 (D2.alloc _).drew (D3.alloc _).drew | exact s4 (X2.alloc _) (X3.alloc _) | exact s4 ((X2.far (by omega)).far (by omega)) ((X3.far (by omega)).far (by omega)) | fail)
      (first
        | (go_at_call 40; ((with_reducible refine (EA.out _).mono ?_); rintro e wx ⟨rfl, hb⟩; have HX : Hid (Below w2.heap.size w2 wx) := Lib.hid (by first | exact below_drew hb | exact below_drew (below_new hb) | exact below_new (below_drew hb) | (refine Below.then_ (Hid.out ?_) hb; assumption) | (refine Below.then_ (Hid.out ?_) (below_new hb); assumption)); have X2 := D2.stay HX.out; have X3 := D3.stay HX.out; have K := s4 X2 X3; have zx : w2.heap.size ≤ wx.heap.size := HX.out.size; (first | (have T7 := Lib.hid (two_new hb)) | (have T7 := Lib.hid (two_new (below_drew hb))) | (have T7 := Lib.hid (T7.out.stay hb)) | skip); clear hb))
        | (go_at_call 40; ((with_reducible refine (EC.out _).mono ?_); rintro e wx ⟨rfl, hb⟩; have HX : Hid (Below w2.heap.size w2 wx) := Lib.hid (by first | exact below_drew hb | exact below_drew (below_new hb) | exact below_new (below_drew hb) | (refine Below.then_ (Hid.out ?_) hb; assumption) | (refine Below.then_ (Hid.out ?_) (below_new hb); assumption)); have X2 := D2.stay HX.out; have X3 := D3.stay HX.out; have K := s4 X2 X3; have zx : w2.heap.size ≤ wx.heap.size := HX.out.size; (first | (have T7 := Lib.hid (two_new hb)) | (have T7 := Lib.hid (two_new (below_drew hb))) | (have T7 := Lib.hid (T7.out.stay hb)) | skip); clear hb))
        | (go_at_call 44; ((with_reducible refine (NG.out _).mono ?_); rintro e wx ⟨rfl, hb⟩; have HX : Hid (Below w2.heap.size w2 wx) := Lib.hid (by first | exact below_drew hb | exact below_drew (below_new hb) | exact below_new (below_drew hb) | (refine Below.then_ (Hid.out ?_) hb; assumption) | (refine Below.then_ (Hid.out ?_) (below_new hb); assumption)); have X2 := D2.stay HX.out; have X3 := D3.stay HX.out; have K := s4 X2 X3; have zx : w2.heap.size ≤ wx.heap.size := HX.out.size; (first | (have T7 := Lib.hid (two_new hb)) | (have T7 := Lib.hid (two_new (below_drew hb))) | (have T7 := Lib.hid (T7.out.stay hb)) | skip); clear hb))
        | (go_at_call 47; ((with_reducible refine (FIN.out _).mono ?_); rintro e wx ⟨rfl, hb⟩; have HX : Hid (Below w2.heap.size w2 wx) := Lib.hid (by first | exact below_drew hb | exact below_drew (below_new hb) | exact below_new (below_drew hb) | (refine Below.then_ (Hid.out ?_) hb; assumption) | (refine Below.then_ (Hid.out ?_) (below_new hb); assumption)); have X2 := D2.stay HX.out; have X3 := D3.stay HX.out; have K := s4 X2 X3; have zx : w2.heap.size ≤ wx.heap.size := HX.out.size; (first | (have T7 := Lib.hid (two_new hb)) | (have T7 := Lib.hid (two_new (below_drew hb))) | (have T7 := Lib.hid (T7.out.stay hb)) | skip); clear hb; have HQ := HX; have zq := HQ.out.size; have Q2 := X2; have Q3 := X3; (try (obtain ⟨_, q0, q1, q2, q3⟩ := T7.out)))))
  all_goals
    have BQ := (HBW.out.trans (HB2.out.mono HBW.out.size)).trans (HQ.out.mono (Nat.le_trans HBW.out.size HB2.out.size))
    have BQ := Lib.hid BQ
    cases ng
    · have HR : Hid (((1 : Int), (0 : Int)) = cmpS a b c d) := Lib.hid HRES.out
      clear HRES
      go_wp2
      go_ret2
      first
        | exact ⟨ret2c HR.out, BQ.out⟩
        | exact ⟨ret2c HR.out, BQ.out.alloc BQ.out.size _⟩
        | exact ⟨ret2c HR.out, (BQ.out.setCell (by simp; omega) _).setCell (by simp; omega) _⟩
    · have HR : Hid (((-1 : Int), (0 : Int)) = cmpS a b c d) := Lib.hid HRES.out
      clear HRES
      go_wp2
      go_ret2
      first
        | exact ⟨ret2c HR.out, BQ.out⟩
        | exact ⟨ret2c HR.out, BQ.out.alloc BQ.out.size _⟩
        | exact ⟨ret2c HR.out, (BQ.out.setCell (by simp; omega) _).setCell (by simp; omega) _⟩
theorem compareCodeYes (a b c d : Int) (w : World) (a0 : -9223372036854775808 ≤ a) (a1 : a ≤ 9223372036854775807) (b0 : -9223372036854775808 ≤ b) (b1 : b ≤ 9223372036854775807)
    (c0 : -9223372036854775808 ≤ c) (c1 : c ≤ 9223372036854775807) (d0 : -9223372036854775808 ≤ d) (d1 : d ≤ 9223372036854775807) (h1 : validS a b = true) (h2 : validS c d = true) :
    Calls Tryd.prog 25 #[rv a b, rv c d] w (tCmp w (cmpS a b c d)) := by
  by_cases h : a = c ∧ b = d
  · obtain ⟨rfl, rfl⟩ := h; exact compareCodeSame a b w a0 a1 b0 b1 h1
  · exact compareCodeNe a b c d w a0 a1 b0 b1 c0 c1 d0 d1 h1 h2 h
set_option maxRecDepth 100000 in
set_option maxHeartbeats 16000000 in
theorem compareCodeNo1 (a b c d : Int) (w : World) (a0 : -9223372036854775808 ≤ a) (a1 : a ≤ 9223372036854775807) (b0 : -9223372036854775808 ≤ b) (b1 : b ≤ 9223372036854775807)
     (h1 : validS a b = false) :
    Calls Tryd.prog 25 #[rv a b, rv c d] w (tCmp w (cmpS a b c d)) := by
  obtain ⟨W0, hW0⟩ : ∃ W0, (w.alloc (.cells #[.int .i64 a, .int .i64 b] 23)).alloc (.cells #[.int .i64 c, .int .i64 d] 23) = W0 := ⟨_, rfl⟩
  have H2 : Hid (Two W0 w.heap.size (.int .i64 a) (.int .i64 b)) := Lib.hid (by rw [← hW0]; exact (Two.new _ _ _ _).alloc _)
  have H3 : Hid (Two W0 (w.heap.size + 1) (.int .i64 c) (.int .i64 d)) := Lib.hid (by rw [← hW0]; exact Two.at_ (by simp) _ _ _)
  have HBW : Hid (Below w.heap.size w W0) := Lib.hid (by rw [← hW0]; exact ((Below.refl _ _).alloc (Nat.le_refl _) _).alloc (by simp) _)
  have hz0 : w.heap.size + 1 < W0.heap.size := H3.out.lt
  have HW := Lib.hid hW0
  clear hW0
  have HS : Hid ((0, 1) = cmpS a b c d) := Lib.hid (by unfold cmpS; rw [h1]; simp)
  have HV1 := Lib.hid h1
  clear h1
  have e0 := H2.out.c0
  have e1 := H2.out.c1
  go_enter Tryd.func25, Tryd.ntmps25
  go_wp2_with (first
    | (rw [HW.out]; (go_at_call 15; ((refine (validCode a b W0 a0 a1 b0 b1).mono ?_); rintro e w1 ⟨rfl, hb1⟩; rw [HV1.out]; have HB1 := Lib.hid hb1; have f0 := (H3.out.stay hb1).c0; have f1 := (H3.out.stay hb1).c1; clear hb1))))
  go_ret2
  exact ⟨ret2c HS.out, HBW.out.trans (HB1.out.mono HBW.out.size)⟩
set_option maxRecDepth 100000 in
set_option maxHeartbeats 16000000 in
theorem compareCodeNo2 (a b c d : Int) (w : World) (a0 : -9223372036854775808 ≤ a) (a1 : a ≤ 9223372036854775807) (b0 : -9223372036854775808 ≤ b) (b1 : b ≤ 9223372036854775807)
    (c0 : -9223372036854775808 ≤ c) (c1 : c ≤ 9223372036854775807) (d0 : -9223372036854775808 ≤ d) (d1 : d ≤ 9223372036854775807) (h1 : validS a b = true) (h2 : validS c d = false) :
    Calls Tryd.prog 25 #[rv a b, rv c d] w (tCmp w (cmpS a b c d)) := by
  obtain ⟨W0, hW0⟩ : ∃ W0, (w.alloc (.cells #[.int .i64 a, .int .i64 b] 23)).alloc (.cells #[.int .i64 c, .int .i64 d] 23) = W0 := ⟨_, rfl⟩
  have H2 : Hid (Two W0 w.heap.size (.int .i64 a) (.int .i64 b)) := Lib.hid (by rw [← hW0]; exact (Two.new _ _ _ _).alloc _)
  have H3 : Hid (Two W0 (w.heap.size + 1) (.int .i64 c) (.int .i64 d)) := Lib.hid (by rw [← hW0]; exact Two.at_ (by simp) _ _ _)
  have HBW : Hid (Below w.heap.size w W0) := Lib.hid (by rw [← hW0]; exact ((Below.refl _ _).alloc (Nat.le_refl _) _).alloc (by simp) _)
  have hz0 : w.heap.size + 1 < W0.heap.size := H3.out.lt
  have HW := Lib.hid hW0
  clear hW0
  have HS : Hid ((0, 1) = cmpS a b c d) := Lib.hid (by unfold cmpS; rw [h1, h2]; simp)
  have HV1 := Lib.hid h1
  have HV2 := Lib.hid h2
  clear h1 h2
  have e0 := H2.out.c0
  have e1 := H2.out.c1
  go_enter Tryd.func25, Tryd.ntmps25
  go_wp2_with (first
    | (rw [HW.out]; (go_at_call 15; ((refine (validCode a b W0 a0 a1 b0 b1).mono ?_); rintro e w1 ⟨rfl, hb1⟩; rw [HV1.out]; have HB1 := Lib.hid hb1; have f0 := (H3.out.stay hb1).c0; have f1 := (H3.out.stay hb1).c1; clear hb1)))
    | (go_at_call 15; ((refine (validCode c d w1 c0 c1 d0 d1).mono ?_); rintro e w2 ⟨rfl, hb2⟩; rw [HV2.out]; have HB2 : Hid (Below W0.heap.size W0 w2) := Lib.hid (Below.then_ HB1.out hb2); clear f0 f1 hb2)))
  go_ret2
  exact ⟨ret2c HS.out, HBW.out.trans (HB2.out.mono HBW.out.size)⟩
theorem compareCode (a b c d : Int) (w : World) (a0 : -9223372036854775808 ≤ a) (a1 : a ≤ 9223372036854775807) (b0 : -9223372036854775808 ≤ b) (b1 : b ≤ 9223372036854775807)
    (c0 : -9223372036854775808 ≤ c) (c1 : c ≤ 9223372036854775807) (d0 : -9223372036854775808 ≤ d) (d1 : d ≤ 9223372036854775807) :
    Calls Tryd.prog 25 #[rv a b, rv c d] w (tCmp w (cmpS a b c d)) := by
  cases h1 : validS a b
  · exact compareCodeNo1 a b c d w a0 a1 b0 b1 h1
  · cases h2 : validS c d
    · exact compareCodeNo2 a b c d w a0 a1 b0 b1 c0 c1 d0 d1 h1 h2
    · exact compareCodeYes a b c d w a0 a1 b0 b1 c0 c1 d0 d1 h1 h2
end Go.Proofs.YtjighmmfaedgbaaDoor.RatW
