/-
  What package rat's 'Mul' returns.
-/
import Derived.Test.YtjighmmfaedgbaaDoorRatCodeA
import Derived.Test.YtjighmmfaedgbaaDoorRatRefM
namespace Go.Proofs.YtjighmmfaedgbaaDoor.RatW
open Go Go.RowKit Go.Proofs.YtjighmmfaedgbaaDoor.RatM

set_option maxRecDepth 100000 in
set_option maxHeartbeats 16000000 in
theorem mulCodeYes (a b c d : Int) (w : World) (a0 : -9223372036854775808 ≤ a) (a1 : a ≤ 9223372036854775807) (b0 : -9223372036854775808 ≤ b) (b1 : b ≤ 9223372036854775807)
    (c0 : -9223372036854775808 ≤ c) (c1 : c ≤ 9223372036854775807) (d0 : -9223372036854775808 ≤ d) (d1 : d ≤ 9223372036854775807) (h1 : validS a b = true) (h2 : validS c d = true) :
    Calls Tryd.prog 21 #[rv a b, rv c d] w (tRes w (mulS a b c d)) := by
  obtain ⟨W0, hW0⟩ : ∃ W0, ((w.alloc (.cells #[.int .i64 a, .int .i64 b] 23)).alloc (.cells #[.int .i64 c, .int .i64 d] 23)).alloc (.cells #[.int .i64 0, .int .i64 0] 23) = W0 := ⟨_, rfl⟩
  have H2 : Hid (Two W0 w.heap.size (.int .i64 a) (.int .i64 b)) := Lib.hid (by rw [← hW0]; exact ((Two.new _ _ _ _).alloc _).alloc _)
  have H3 : Hid (Two W0 (w.heap.size + 1) (.int .i64 c) (.int .i64 d)) := Lib.hid (by rw [← hW0]; exact (Two.at_ (by simp) _ _ _).alloc _)
  have H4 : Hid (Two W0 (w.heap.size + 1 + 1) (.int .i64 0) (.int .i64 0)) := Lib.hid (by rw [← hW0]; exact Two.at_ (by simp) _ _ _)
  have HBW : Hid (Below w.heap.size w W0) := Lib.hid (by rw [← hW0]; exact (((Below.refl _ _).alloc (Nat.le_refl _) _).alloc (by simp) _).alloc (by simp; omega) _)
  have hz0 : w.heap.size + 1 + 1 < W0.heap.size := H4.out.lt
  have HW := Lib.hid hW0
  clear hW0
  have b2 := (valid_iff.1 h1).1
  have d2 := (valid_iff.1 h2).1
  have EA := fun w => exactCode a b w a0 a1 b0 b1
  have EC := fun w => exactCode c d w c0 c1 d0 d1
  have FIN : ∀ w, Calls Tryd.prog 45 #[fv (decide (a < 0)) a.natAbs b.natAbs, fv (decide (c < 0)) c.natAbs d.natAbs] w (tRes w (mulS a b c d)) := fun w => by
    rw [← mul_res h1 h2]; exact mulCode2 _ _ _ _ _ _ w (by omega) (by omega) (by omega) (by omega) (valid_iff.1 h1).2 (valid_iff.1 h2).2 (by omega) (by omega)
  have V1 := fun w => validCode a b w a0 a1 b0 b1
  have V2 := fun w => validCode c d w c0 c1 d0 d1
  rw [h1] at V1
  rw [h2] at V2
  generalize decide (a < 0) = s1 at *
  generalize decide (c < 0) = s2 at *
  generalize a.natAbs = p1 at *
  generalize b.natAbs = r1 at *
  generalize c.natAbs = p2 at *
  generalize d.natAbs = r2 at *
  have NG := Lib.hid (fun w => negCode s2 p2 r2 w)
  have EA := Lib.hid EA
  have EC := Lib.hid EC
  have FIN := Lib.hid FIN
  have V1 := Lib.hid V1
  have V2 := Lib.hid V2
  clear h1 h2
  have e0 := H2.out.c0
  have e1 := H2.out.c1
  have e2 := H3.out.c0
  have e3 := H3.out.c1
  go_enter Tryd.func21, Tryd.ntmps21
  go_wp2_with (first
    | (rw [HW.out]; (go_at_call 15; ((with_reducible refine (V1.out _).mono ?_); rintro e w1 ⟨rfl, hb1⟩; have HB1 := Lib.hid hb1; have f0 := (H3.out.stay hb1).c0; have f1 := (H3.out.stay hb1).c1; clear hb1)))
    | (go_at_call 15; ((with_reducible refine (V2.out _).mono ?_); rintro e w2 ⟨rfl, hb2⟩; have HB2 : Hid (Below W0.heap.size W0 w2) := Lib.hid (Below.then_ HB1.out hb2); clear f0 f1 e0 e1 e2 e3 hb2)))
  have D2 := H2.out.stay HB2.out
  have D3 := H3.out.stay HB2.out
  have hz2 : W0.heap.size ≤ w2.heap.size := HB2.out.size
  go_region_held3 (fun w' => w'.cell? ⟨w.heap.size, 0, none⟩ = some (.int .i64 a) ∧ w'.cell? ⟨w.heap.size, 1, none⟩ = some (.int .i64 b) ∧ w'.cell? ⟨w.heap.size + 1, 0, none⟩ = some (.int .i64 c) ∧ w'.cell? ⟨w.heap.size + 1, 1, none⟩ = some (.int .i64 d)) (first | assumption | exact s4 D2.drew D3.drew | exact s4 ((Q2.far (by omega)).far (by omega)) ((Q3.far (by omega)).far (by omega)) | fail)
    (first
      | (go_at_call 40; ((with_reducible refine (EA.out _).mono ?_); rintro e wx ⟨rfl, hb⟩; have HX : Hid (Below w2.heap.size w2 wx) := Lib.hid (by first | exact below_drew hb | exact below_drew (below_new hb) | exact below_new (below_drew hb) | (refine Below.then_ (Hid.out ?_) hb; assumption) | (refine Below.then_ (Hid.out ?_) (below_new hb); assumption)); have X2 := D2.stay HX.out; have X3 := D3.stay HX.out; have K := s4 X2 X3; clear hb))
      | (go_at_call 40; ((with_reducible refine (EC.out _).mono ?_); rintro e wx ⟨rfl, hb⟩; have HX : Hid (Below w2.heap.size w2 wx) := Lib.hid (by first | exact below_drew hb | exact below_drew (below_new hb) | exact below_new (below_drew hb) | (refine Below.then_ (Hid.out ?_) hb; assumption) | (refine Below.then_ (Hid.out ?_) (below_new hb); assumption)); have X2 := D2.stay HX.out; have X3 := D3.stay HX.out; have K := s4 X2 X3; clear hb))
      | (go_at_call 45; ((with_reducible refine (FIN.out _).mono ?_); rintro e wx hq; obtain ⟨x, y, k, hr, rfl, hb⟩ := tRes_open hq; have HR := Lib.hid hr; have HX : Hid (Below w2.heap.size w2 wx) := Lib.hid (by first | exact below_drew hb | exact below_drew (below_new hb) | exact below_new (below_drew hb) | (refine Below.then_ (Hid.out ?_) hb; assumption) | (refine Below.then_ (Hid.out ?_) (below_new hb); assumption)); have X2 := D2.stay HX.out; have X3 := D3.stay HX.out; have K := s4 X2 X3; clear hb; have HQ := HX; have Q2 := X2; have Q3 := X3; obtain ⟨_, q0, q1, q2, q3⟩ := H4.out.stay (Below.then_ HB2.out HQ.out); clear hq hr)))
  all_goals
    go_wp2
    refine bodyPost_ret (v := .tuple #[.agg #[.int .i64 x, .int .i64 y], .int .i64 k]) (by simp [results, Tryd.results21, go_sem, q0, q1]) rfl ?_
    exact ⟨by rw [resV_mk HR.out.symm], (((HBW.out.trans (HB2.out.mono HBW.out.size)).trans (HQ.out.mono (Nat.le_trans HBW.out.size HB2.out.size))).setCell (by simp; omega) _).setCell (by simp; omega) _⟩
set_option maxRecDepth 100000 in
set_option maxHeartbeats 16000000 in
theorem mulCodeNo1 (a b c d : Int) (w : World) (a0 : -9223372036854775808 ≤ a) (a1 : a ≤ 9223372036854775807) (b0 : -9223372036854775808 ≤ b) (b1 : b ≤ 9223372036854775807)
     (h1 : validS a b = false) :
    Calls Tryd.prog 21 #[rv a b, rv c d] w (tRes w (mulS a b c d)) := by
  obtain ⟨W0, hW0⟩ : ∃ W0, ((w.alloc (.cells #[.int .i64 a, .int .i64 b] 23)).alloc (.cells #[.int .i64 c, .int .i64 d] 23)).alloc (.cells #[.int .i64 0, .int .i64 0] 23) = W0 := ⟨_, rfl⟩
  have H2 : Hid (Two W0 w.heap.size (.int .i64 a) (.int .i64 b)) := Lib.hid (by rw [← hW0]; exact ((Two.new _ _ _ _).alloc _).alloc _)
  have H3 : Hid (Two W0 (w.heap.size + 1) (.int .i64 c) (.int .i64 d)) := Lib.hid (by rw [← hW0]; exact (Two.at_ (by simp) _ _ _).alloc _)
  have H4 : Hid (Two W0 (w.heap.size + 1 + 1) (.int .i64 0) (.int .i64 0)) := Lib.hid (by rw [← hW0]; exact Two.at_ (by simp) _ _ _)
  have HBW : Hid (Below w.heap.size w W0) := Lib.hid (by rw [← hW0]; exact (((Below.refl _ _).alloc (Nat.le_refl _) _).alloc (by simp) _).alloc (by simp; omega) _)
  have hz0 : w.heap.size + 1 + 1 < W0.heap.size := H4.out.lt
  have HW := Lib.hid hW0
  clear hW0
  have HS : Hid ((0, 0, 1) = mulS a b c d) := Lib.hid (by unfold mulS; rw [h1]; simp)
  have HV1 := Lib.hid h1
  clear h1
  have e0 := H2.out.c0
  have e1 := H2.out.c1
  go_enter Tryd.func21, Tryd.ntmps21
  go_wp2_with (first
    | (rw [HW.out]; (go_at_call 15; ((refine (validCode a b W0 a0 a1 b0 b1).mono ?_); rintro e w1 ⟨rfl, hb1⟩; rw [HV1.out]; have HB1 := Lib.hid hb1; have f0 := (H3.out.stay hb1).c0; have f1 := (H3.out.stay hb1).c1; obtain ⟨_, q0, q1, q2, q3⟩ := H4.out.stay HB1.out; clear hb1))))
  refine bodyPost_ret (v := .tuple #[.agg #[.int .i64 0, .int .i64 0], .int .i64 1]) (by simp [results, Tryd.results21, go_sem, q0, q1]) rfl ?_
  exact ⟨by rw [resV_mk HS.out], ((HBW.out.trans (HB1.out.mono HBW.out.size)).setCell (by simp; omega) _).setCell (by simp; omega) _⟩
set_option maxRecDepth 100000 in
set_option maxHeartbeats 16000000 in
theorem mulCodeNo2 (a b c d : Int) (w : World) (a0 : -9223372036854775808 ≤ a) (a1 : a ≤ 9223372036854775807) (b0 : -9223372036854775808 ≤ b) (b1 : b ≤ 9223372036854775807)
    (c0 : -9223372036854775808 ≤ c) (c1 : c ≤ 9223372036854775807) (d0 : -9223372036854775808 ≤ d) (d1 : d ≤ 9223372036854775807) (h1 : validS a b = true) (h2 : validS c d = false) :
    Calls Tryd.prog 21 #[rv a b, rv c d] w (tRes w (mulS a b c d)) := by
  obtain ⟨W0, hW0⟩ : ∃ W0, ((w.alloc (.cells #[.int .i64 a, .int .i64 b] 23)).alloc (.cells #[.int .i64 c, .int .i64 d] 23)).alloc (.cells #[.int .i64 0, .int .i64 0] 23) = W0 := ⟨_, rfl⟩
  have H2 : Hid (Two W0 w.heap.size (.int .i64 a) (.int .i64 b)) := Lib.hid (by rw [← hW0]; exact ((Two.new _ _ _ _).alloc _).alloc _)
  have H3 : Hid (Two W0 (w.heap.size + 1) (.int .i64 c) (.int .i64 d)) := Lib.hid (by rw [← hW0]; exact (Two.at_ (by simp) _ _ _).alloc _)
  have H4 : Hid (Two W0 (w.heap.size + 1 + 1) (.int .i64 0) (.int .i64 0)) := Lib.hid (by rw [← hW0]; exact Two.at_ (by simp) _ _ _)
  have HBW : Hid (Below w.heap.size w W0) := Lib.hid (by rw [← hW0]; exact (((Below.refl _ _).alloc (Nat.le_refl _) _).alloc (by simp) _).alloc (by simp; omega) _)
  have hz0 : w.heap.size + 1 + 1 < W0.heap.size := H4.out.lt
  have HW := Lib.hid hW0
  clear hW0
  have HS : Hid ((0, 0, 1) = mulS a b c d) := Lib.hid (by unfold mulS; rw [h1, h2]; simp)
  have HV1 := Lib.hid h1
  have HV2 := Lib.hid h2
  clear h1 h2
  have e0 := H2.out.c0
  have e1 := H2.out.c1
  go_enter Tryd.func21, Tryd.ntmps21
  go_wp2_with (first
    | (rw [HW.out]; (go_at_call 15; ((refine (validCode a b W0 a0 a1 b0 b1).mono ?_); rintro e w1 ⟨rfl, hb1⟩; rw [HV1.out]; have HB1 := Lib.hid hb1; have f0 := (H3.out.stay hb1).c0; have f1 := (H3.out.stay hb1).c1; clear hb1)))
    | (go_at_call 15; ((refine (validCode c d w1 c0 c1 d0 d1).mono ?_); rintro e w2 ⟨rfl, hb2⟩; rw [HV2.out]; have HB2 : Hid (Below W0.heap.size W0 w2) := Lib.hid (Below.then_ HB1.out hb2); obtain ⟨_, q0, q1, q2, q3⟩ := H4.out.stay HB2.out; clear f0 f1 hb2)))
  refine bodyPost_ret (v := .tuple #[.agg #[.int .i64 0, .int .i64 0], .int .i64 1]) (by simp [results, Tryd.results21, go_sem, q0, q1]) rfl ?_
  exact ⟨by rw [resV_mk HS.out], ((HBW.out.trans (HB2.out.mono HBW.out.size)).setCell (by simp; omega) _).setCell (by simp; omega) _⟩
theorem mulCode (a b c d : Int) (w : World) (a0 : -9223372036854775808 ≤ a) (a1 : a ≤ 9223372036854775807) (b0 : -9223372036854775808 ≤ b) (b1 : b ≤ 9223372036854775807)
    (c0 : -9223372036854775808 ≤ c) (c1 : c ≤ 9223372036854775807) (d0 : -9223372036854775808 ≤ d) (d1 : d ≤ 9223372036854775807) :
    Calls Tryd.prog 21 #[rv a b, rv c d] w (tRes w (mulS a b c d)) := by
  cases h1 : validS a b
  · exact mulCodeNo1 a b c d w a0 a1 b0 b1 h1
  · cases h2 : validS c d
    · exact mulCodeNo2 a b c d w a0 a1 b0 b1 c0 c1 d0 d1 h1 h2
    · exact mulCodeYes a b c d w a0 a1 b0 b1 c0 c1 d0 d1 h1 h2
end Go.Proofs.YtjighmmfaedgbaaDoor.RatW
