/-
  What the reference's 'Div' returns.
-/
import Derived.Test.YtjighmmfaedgbaaDoorRatRefM
namespace Go.Proofs.YtjighmmfaedgbaaDoor.RatW
open Go Go.RowKit Go.Proofs.YtjighmmfaedgbaaDoor.RatM

set_option maxRecDepth 100000 in
set_option maxHeartbeats 16000000 in
theorem divZero (a b d : Int) (w : World) (a0 : -9223372036854775808 ≤ a) (a1 : a ≤ 9223372036854775807) (b0 : -9223372036854775808 ≤ b) (b1 : b ≤ 9223372036854775807)
    (d0 : -9223372036854775808 ≤ d) (d1 : d ≤ 9223372036854775807) (h1 : validS a b = true) (h2 : validS 0 d = true) :
    Calls Tryd.prog 24 #[rv a b, rv 0 d] w (tRes w (divS a b 0 d)) := by
  obtain ⟨W0, hW0⟩ : ∃ W0, ((w.alloc (.cells #[.int .i64 a, .int .i64 b] 23)).alloc (.cells #[.int .i64 0, .int .i64 d] 23)).alloc (.cells #[.int .i64 0, .int .i64 0] 23) = W0 := ⟨_, rfl⟩
  have H2 : Hid (Two W0 w.heap.size (.int .i64 a) (.int .i64 b)) := Lib.hid (by rw [← hW0]; exact ((Two.new _ _ _ _).alloc _).alloc _)
  have H3 : Hid (Two W0 (w.heap.size + 1) (.int .i64 0) (.int .i64 d)) := Lib.hid (by rw [← hW0]; exact (Two.at_ (by simp) _ _ _).alloc _)
  have H4 : Hid (Two W0 (w.heap.size + 1 + 1) (.int .i64 0) (.int .i64 0)) := Lib.hid (by rw [← hW0]; exact Two.at_ (by simp) _ _ _)
  have HBW : Hid (Below w.heap.size w W0) := Lib.hid (by rw [← hW0]; exact (((Below.refl _ _).alloc (Nat.le_refl _) _).alloc (by simp) _).alloc (by simp; omega) _)
  have hz0 : w.heap.size + 1 + 1 < W0.heap.size := H4.out.lt
  have HW := Lib.hid hW0
  clear hW0
  have HS := Lib.hid (div_zero h1 h2)
  have HV1 := Lib.hid h1
  have HV2 := Lib.hid h2
  clear h1 h2
  have e0 := H2.out.c0
  have e1 := H2.out.c1
  have e2 := H3.out.c0
  have e3 := H3.out.c1
  go_enter Tryd.func24, Tryd.ntmps24
  go_wp2_with (first
    | (rw [HW.out]; (go_at_call 16; ((refine (validRef_any a b W0 a0 a1 b0 b1).mono ?_); rintro e w1 ⟨rfl, hb1⟩; rw [HV1.out]; have HB1 := Lib.hid hb1; have f0 := (H3.out.stay hb1).c0; have f1 := (H3.out.stay hb1).c1; clear hb1)))
    | (go_at_call 16; ((refine (validRef_any 0 d w1 (by omega) (by omega) d0 d1).mono ?_); rintro e w2 ⟨rfl, hb2⟩; rw [HV2.out]; have HB2 : Hid (Below W0.heap.size W0 w2) := Lib.hid (Below.then_ HB1.out hb2); clear f0 f1 e0 e1 e2 e3 hb2; have e2 := (H3.out.stay HB2.out).c0; obtain ⟨_, q0, q1, q2, q3⟩ := H4.out.stay HB2.out)))
  refine bodyPost_ret (v := .tuple #[.agg #[.int .i64 0, .int .i64 0], .int .i64 4]) (by simp [results, Tryd.results24, go_sem, q0, q1]) rfl ?_
  exact ⟨by rw [resV_mk HS.out], ((HBW.out.trans (HB2.out.mono HBW.out.size)).setCell (by simp; omega) _).setCell (by simp; omega) _⟩
set_option maxRecDepth 100000 in
set_option maxHeartbeats 60000000 in
theorem divNz (a b c d : Int) (w : World) (a0 : -9223372036854775808 ≤ a) (a1 : a ≤ 9223372036854775807) (b0 : -9223372036854775808 ≤ b) (b1 : b ≤ 9223372036854775807)
    (c0 : -9223372036854775808 ≤ c) (c1 : c ≤ 9223372036854775807) (d0 : -9223372036854775808 ≤ d) (d1 : d ≤ 9223372036854775807) (h1 : validS a b = true) (h2 : validS c d = true) (hc : ¬ c = 0) :
    Calls Tryd.prog 24 #[rv a b, rv c d] w (tRes w (divS a b c d)) := by
  obtain ⟨W0, hW0⟩ : ∃ W0, ((w.alloc (.cells #[.int .i64 a, .int .i64 b] 23)).alloc (.cells #[.int .i64 c, .int .i64 d] 23)).alloc (.cells #[.int .i64 0, .int .i64 0] 23) = W0 := ⟨_, rfl⟩
  have H2 : Hid (Two W0 w.heap.size (.int .i64 a) (.int .i64 b)) := Lib.hid (by rw [← hW0]; exact ((Two.new _ _ _ _).alloc _).alloc _)
  have H3 : Hid (Two W0 (w.heap.size + 1) (.int .i64 c) (.int .i64 d)) := Lib.hid (by rw [← hW0]; exact (Two.at_ (by simp) _ _ _).alloc _)
  have H4 : Hid (Two W0 (w.heap.size + 1 + 1) (.int .i64 0) (.int .i64 0)) := Lib.hid (by rw [← hW0]; exact Two.at_ (by simp) _ _ _)
  have HBW : Hid (Below w.heap.size w W0) := Lib.hid (by rw [← hW0]; exact (((Below.refl _ _).alloc (Nat.le_refl _) _).alloc (by simp) _).alloc (by simp; omega) _)
  have hz0 : w.heap.size + 1 + 1 < W0.heap.size := H4.out.lt
  have HW := Lib.hid hW0
  clear hW0
  have b2 := (valid_iff.1 h1).1
  have d2 := (valid_iff.1 h2).1
  have HV1 := Lib.hid h1
  have HV2 := Lib.hid h2
  have HR0 := Lib.hid (div_res h1 h2 hc)
  have hcp : 0 < c.natAbs := by omega
  have hc' : (c == 0) = false := by simpa using hc
  clear hc
  clear h1 h2
  have e0 := H2.out.c0
  have e1 := H2.out.c1
  have e2 := H3.out.c0
  have e3 := H3.out.c1
  go_enter Tryd.func24, Tryd.ntmps24
  go_wp2_with (first
    | (rw [HW.out]; (go_at_call 16; ((refine (validRef_any a b W0 a0 a1 b0 b1).mono ?_); rintro e w1 ⟨rfl, hb1⟩; rw [HV1.out]; have HB1 := Lib.hid hb1; have f0 := (H3.out.stay hb1).c0; have f1 := (H3.out.stay hb1).c1; clear hb1)))
    | (go_at_call 16; ((refine (validRef_any c d w1 c0 c1 d0 d1).mono ?_); rintro e w2 ⟨rfl, hb2⟩; rw [HV2.out]; have HB2 : Hid (Below W0.heap.size W0 w2) := Lib.hid (Below.then_ HB1.out hb2); clear f0 f1 e0 e1 e2 e3 hb2; have e2 := (H3.out.stay HB2.out).c0)))
  clear e2
  have D2 := H2.out.stay HB2.out
  have D3 := H3.out.stay HB2.out
  have D4 := H4.out.stay HB2.out
  have HZ : Hid (Below w2.heap.size w2 w2.drew) := Lib.hid (Below.refl _ _).drew
  have K := s4 D2.drew D3.drew
  have la : (digs a.natAbs).length ≤ 5 := digs_i64 (by omega)
  have lb : (digs b.natAbs).length ≤ 5 := digs_i64 (by omega)
  have lc : (digs c.natAbs).length ≤ 5 := digs_i64 (by omega)
  have ld : (digs d.natAbs).length ≤ 5 := digs_i64 (by omega)
  have lp : (digs (a.natAbs * d.natAbs)).length ≤ 19 := Nat.le_trans (digs_mul _ _) (by omega)
  have lq : (digs (b.natAbs * c.natAbs)).length ≤ 19 := Nat.le_trans (digs_mul _ _) (by omega)
  have la : (digs a.natAbs).length ≤ 20 := Nat.le_trans la (by omega)
  have lb : (digs b.natAbs).length ≤ 20 := Nat.le_trans lb (by omega)
  have lc : (digs c.natAbs).length ≤ 20 := Nat.le_trans lc (by omega)
  have ld : (digs d.natAbs).length ≤ 20 := Nat.le_trans ld (by omega)
  have DP : 0 < b.natAbs * c.natAbs := Nat.mul_pos (by omega) (by omega)
  go_region_held3 (fun w' => w'.cell? ⟨w.heap.size, 0, none⟩ = some (.int .i64 a) ∧ w'.cell? ⟨w.heap.size, 1, none⟩ = some (.int .i64 b) ∧ w'.cell? ⟨w.heap.size + 1, 0, none⟩ = some (.int .i64 c) ∧ w'.cell? ⟨w.heap.size + 1, 1, none⟩ = some (.int .i64 d)) (first | assumption | exact s4 D2.drew D3.drew | exact s4 ((Q2.far (by omega)).far (by omega)) ((Q3.far (by omega)).far (by omega)) | fail)
    (first
      | (go_at_call 38; ((with_reducible refine (size_any a _ a0 a1).mono ?_); rintro e wz ⟨va, rfl, hv, hb⟩; have HZ := Lib.hid (Below.then_ HZ.out hb); (try (have Fa := Lib.hid (Fa.out.later hb))); (try (have Fb := Lib.hid (Fb.out.later hb))); (try (have Fc := Lib.hid (Fc.out.later hb))); (try (have Fd := Lib.hid (Fd.out.later hb))); (try (have Fp := Lib.hid (Fp.out.later hb))); (try (have Fq := Lib.hid (Fq.out.later hb))); clear K; have K := s4 (D2.stay HZ.out) (D3.stay HZ.out); have Fa := Lib.hid hv; clear hv hb))
      | (go_at_call 38; ((with_reducible refine (size_any b _ b0 b1).mono ?_); rintro e wz ⟨vb, rfl, hv, hb⟩; have HZ := Lib.hid (Below.then_ HZ.out hb); (try (have Fa := Lib.hid (Fa.out.later hb))); (try (have Fb := Lib.hid (Fb.out.later hb))); (try (have Fc := Lib.hid (Fc.out.later hb))); (try (have Fd := Lib.hid (Fd.out.later hb))); (try (have Fp := Lib.hid (Fp.out.later hb))); (try (have Fq := Lib.hid (Fq.out.later hb))); clear K; have K := s4 (D2.stay HZ.out) (D3.stay HZ.out); have Fb := Lib.hid hv; clear hv hb))
      | (go_at_call 38; ((with_reducible refine (size_any c _ c0 c1).mono ?_); rintro e wz ⟨vc, rfl, hv, hb⟩; have HZ := Lib.hid (Below.then_ HZ.out hb); (try (have Fa := Lib.hid (Fa.out.later hb))); (try (have Fb := Lib.hid (Fb.out.later hb))); (try (have Fc := Lib.hid (Fc.out.later hb))); (try (have Fd := Lib.hid (Fd.out.later hb))); (try (have Fp := Lib.hid (Fp.out.later hb))); (try (have Fq := Lib.hid (Fq.out.later hb))); clear K; have K := s4 (D2.stay HZ.out) (D3.stay HZ.out); have Fc := Lib.hid hv; clear hv hb))
      | (go_at_call 38; ((with_reducible refine (size_any d _ d0 d1).mono ?_); rintro e wz ⟨vd, rfl, hv, hb⟩; have HZ := Lib.hid (Below.then_ HZ.out hb); (try (have Fa := Lib.hid (Fa.out.later hb))); (try (have Fb := Lib.hid (Fb.out.later hb))); (try (have Fc := Lib.hid (Fc.out.later hb))); (try (have Fd := Lib.hid (Fd.out.later hb))); (try (have Fp := Lib.hid (Fp.out.later hb))); (try (have Fq := Lib.hid (Fq.out.later hb))); clear K; have K := s4 (D2.stay HZ.out) (D3.stay HZ.out); have Fd := Lib.hid hv; clear hv hb))
      | (go_at_call 43; ((with_reducible refine (times_any va vd a.natAbs d.natAbs _ _ Fa.out Fd.out la ld (Nat.le_refl _)).mono ?_); rintro e wz ⟨vp, rfl, hv, hb⟩; have HZ := Lib.hid (Below.then_ HZ.out hb); (try (have Fa := Lib.hid (Fa.out.later hb))); (try (have Fb := Lib.hid (Fb.out.later hb))); (try (have Fc := Lib.hid (Fc.out.later hb))); (try (have Fd := Lib.hid (Fd.out.later hb))); (try (have Fp := Lib.hid (Fp.out.later hb))); (try (have Fq := Lib.hid (Fq.out.later hb))); clear K; have K := s4 (D2.stay HZ.out) (D3.stay HZ.out); have Fp := Lib.hid hv; clear hv hb))
      | (go_at_call 43; ((with_reducible refine (times_any vb vc b.natAbs c.natAbs _ _ Fb.out Fc.out lb lc (Nat.le_refl _)).mono ?_); rintro e wz ⟨vq, rfl, hv, hb⟩; have HZ := Lib.hid (Below.then_ HZ.out hb); (try (have Fa := Lib.hid (Fa.out.later hb))); (try (have Fb := Lib.hid (Fb.out.later hb))); (try (have Fc := Lib.hid (Fc.out.later hb))); (try (have Fd := Lib.hid (Fd.out.later hb))); (try (have Fp := Lib.hid (Fp.out.later hb))); (try (have Fq := Lib.hid (Fq.out.later hb))); clear K; have K := s4 (D2.stay HZ.out) (D3.stay HZ.out); have Fq := Lib.hid hv; clear hv hb))
      | (go_at_call 37; ((with_reducible refine (quotient_any _ vp vq (a.natAbs * d.natAbs) (b.natAbs * c.natAbs) _ _ Fp.out Fq.out lp lq DP (Nat.le_refl _)).mono ?_); rintro e wz hq; obtain ⟨x, y, k, hr, rfl, hb⟩ := tRes_open hq; have HR := Lib.hid hr; have HZ := Lib.hid (Below.then_ HZ.out hb); clear K; have K := s4 (D2.stay HZ.out) (D3.stay HZ.out); obtain ⟨_, q0, q1, q2, q3⟩ := D4.stay HZ.out; have Q2 := D2.stay HZ.out; have Q3 := D3.stay HZ.out; clear hq hr hb)))
  all_goals
    go_wp2
    refine bodyPost_ret (v := .tuple #[.agg #[.int .i64 x, .int .i64 y], .int .i64 k]) (by simp [results, Tryd.results24, go_sem, q0, q1]) rfl ?_
    exact ⟨by rw [resV_mk (HR.out.symm.trans HR0.out)], (((HBW.out.trans (HB2.out.mono HBW.out.size)).trans (HZ.out.mono (Nat.le_trans HBW.out.size HB2.out.size))).setCell (by simp; omega) _).setCell (by simp; omega) _⟩
theorem divYes (a b c d : Int) (w : World) (a0 : -9223372036854775808 ≤ a) (a1 : a ≤ 9223372036854775807) (b0 : -9223372036854775808 ≤ b) (b1 : b ≤ 9223372036854775807)
    (c0 : -9223372036854775808 ≤ c) (c1 : c ≤ 9223372036854775807) (d0 : -9223372036854775808 ≤ d) (d1 : d ≤ 9223372036854775807) (h1 : validS a b = true) (h2 : validS c d = true) :
    Calls Tryd.prog 24 #[rv a b, rv c d] w (tRes w (divS a b c d)) := by
  by_cases hc : c = 0
  · subst hc; exact divZero a b d w a0 a1 b0 b1 d0 d1 h1 h2
  · exact divNz a b c d w a0 a1 b0 b1 c0 c1 d0 d1 h1 h2 hc
set_option maxRecDepth 100000 in
set_option maxHeartbeats 16000000 in
theorem divNo1 (a b c d : Int) (w : World) (a0 : -9223372036854775808 ≤ a) (a1 : a ≤ 9223372036854775807) (b0 : -9223372036854775808 ≤ b) (b1 : b ≤ 9223372036854775807)
     (h1 : validS a b = false) :
    Calls Tryd.prog 24 #[rv a b, rv c d] w (tRes w (divS a b c d)) := by
  obtain ⟨W0, hW0⟩ : ∃ W0, ((w.alloc (.cells #[.int .i64 a, .int .i64 b] 23)).alloc (.cells #[.int .i64 c, .int .i64 d] 23)).alloc (.cells #[.int .i64 0, .int .i64 0] 23) = W0 := ⟨_, rfl⟩
  have H2 : Hid (Two W0 w.heap.size (.int .i64 a) (.int .i64 b)) := Lib.hid (by rw [← hW0]; exact ((Two.new _ _ _ _).alloc _).alloc _)
  have H3 : Hid (Two W0 (w.heap.size + 1) (.int .i64 c) (.int .i64 d)) := Lib.hid (by rw [← hW0]; exact (Two.at_ (by simp) _ _ _).alloc _)
  have H4 : Hid (Two W0 (w.heap.size + 1 + 1) (.int .i64 0) (.int .i64 0)) := Lib.hid (by rw [← hW0]; exact Two.at_ (by simp) _ _ _)
  have HBW : Hid (Below w.heap.size w W0) := Lib.hid (by rw [← hW0]; exact (((Below.refl _ _).alloc (Nat.le_refl _) _).alloc (by simp) _).alloc (by simp; omega) _)
  have hz0 : w.heap.size + 1 + 1 < W0.heap.size := H4.out.lt
  have HW := Lib.hid hW0
  clear hW0
  have HS : Hid ((0, 0, 1) = divS a b c d) := Lib.hid (by unfold divS; rw [h1]; simp)
  have HV1 := Lib.hid h1
  clear h1
  have e0 := H2.out.c0
  have e1 := H2.out.c1
  go_enter Tryd.func24, Tryd.ntmps24
  go_wp2_with (first
    | (rw [HW.out]; (go_at_call 16; ((refine (validRef_any a b W0 a0 a1 b0 b1).mono ?_); rintro e w1 ⟨rfl, hb1⟩; rw [HV1.out]; have HB1 := Lib.hid hb1; have f0 := (H3.out.stay hb1).c0; have f1 := (H3.out.stay hb1).c1; obtain ⟨_, q0, q1, q2, q3⟩ := H4.out.stay HB1.out; clear hb1))))
  refine bodyPost_ret (v := .tuple #[.agg #[.int .i64 0, .int .i64 0], .int .i64 1]) (by simp [results, Tryd.results24, go_sem, q0, q1]) rfl ?_
  exact ⟨by rw [resV_mk HS.out], ((HBW.out.trans (HB1.out.mono HBW.out.size)).setCell (by simp; omega) _).setCell (by simp; omega) _⟩
set_option maxRecDepth 100000 in
set_option maxHeartbeats 16000000 in
theorem divNo2 (a b c d : Int) (w : World) (a0 : -9223372036854775808 ≤ a) (a1 : a ≤ 9223372036854775807) (b0 : -9223372036854775808 ≤ b) (b1 : b ≤ 9223372036854775807)
    (c0 : -9223372036854775808 ≤ c) (c1 : c ≤ 9223372036854775807) (d0 : -9223372036854775808 ≤ d) (d1 : d ≤ 9223372036854775807) (h1 : validS a b = true) (h2 : validS c d = false) :
    Calls Tryd.prog 24 #[rv a b, rv c d] w (tRes w (divS a b c d)) := by
  obtain ⟨W0, hW0⟩ : ∃ W0, ((w.alloc (.cells #[.int .i64 a, .int .i64 b] 23)).alloc (.cells #[.int .i64 c, .int .i64 d] 23)).alloc (.cells #[.int .i64 0, .int .i64 0] 23) = W0 := ⟨_, rfl⟩
  have H2 : Hid (Two W0 w.heap.size (.int .i64 a) (.int .i64 b)) := Lib.hid (by rw [← hW0]; exact ((Two.new _ _ _ _).alloc _).alloc _)
  have H3 : Hid (Two W0 (w.heap.size + 1) (.int .i64 c) (.int .i64 d)) := Lib.hid (by rw [← hW0]; exact (Two.at_ (by simp) _ _ _).alloc _)
  have H4 : Hid (Two W0 (w.heap.size + 1 + 1) (.int .i64 0) (.int .i64 0)) := Lib.hid (by rw [← hW0]; exact Two.at_ (by simp) _ _ _)
  have HBW : Hid (Below w.heap.size w W0) := Lib.hid (by rw [← hW0]; exact (((Below.refl _ _).alloc (Nat.le_refl _) _).alloc (by simp) _).alloc (by simp; omega) _)
  have hz0 : w.heap.size + 1 + 1 < W0.heap.size := H4.out.lt
  have HW := Lib.hid hW0
  clear hW0
  have HS : Hid ((0, 0, 1) = divS a b c d) := Lib.hid (by unfold divS; rw [h1, h2]; simp)
  have HV1 := Lib.hid h1
  have HV2 := Lib.hid h2
  clear h1 h2
  have e0 := H2.out.c0
  have e1 := H2.out.c1
  go_enter Tryd.func24, Tryd.ntmps24
  go_wp2_with (first
    | (rw [HW.out]; (go_at_call 16; ((refine (validRef_any a b W0 a0 a1 b0 b1).mono ?_); rintro e w1 ⟨rfl, hb1⟩; rw [HV1.out]; have HB1 := Lib.hid hb1; have f0 := (H3.out.stay hb1).c0; have f1 := (H3.out.stay hb1).c1; clear hb1)))
    | (go_at_call 16; ((refine (validRef_any c d w1 c0 c1 d0 d1).mono ?_); rintro e w2 ⟨rfl, hb2⟩; rw [HV2.out]; have HB2 : Hid (Below W0.heap.size W0 w2) := Lib.hid (Below.then_ HB1.out hb2); obtain ⟨_, q0, q1, q2, q3⟩ := H4.out.stay HB2.out; clear f0 f1 hb2)))
  refine bodyPost_ret (v := .tuple #[.agg #[.int .i64 0, .int .i64 0], .int .i64 1]) (by simp [results, Tryd.results24, go_sem, q0, q1]) rfl ?_
  exact ⟨by rw [resV_mk HS.out], ((HBW.out.trans (HB2.out.mono HBW.out.size)).setCell (by simp; omega) _).setCell (by simp; omega) _⟩
theorem divRef_any (a b c d : Int) (w : World) (a0 : -9223372036854775808 ≤ a) (a1 : a ≤ 9223372036854775807) (b0 : -9223372036854775808 ≤ b) (b1 : b ≤ 9223372036854775807)
    (c0 : -9223372036854775808 ≤ c) (c1 : c ≤ 9223372036854775807) (d0 : -9223372036854775808 ≤ d) (d1 : d ≤ 9223372036854775807) :
    Calls Tryd.prog 24 #[rv a b, rv c d] w (tRes w (divS a b c d)) := by
  cases h1 : validS a b
  · exact divNo1 a b c d w a0 a1 b0 b1 h1
  · cases h2 : validS c d
    · exact divNo2 a b c d w a0 a1 b0 b1 c0 c1 d0 d1 h1 h2
    · exact divYes a b c d w a0 a1 b0 b1 c0 c1 d0 d1 h1 h2
end Go.Proofs.YtjighmmfaedgbaaDoor.RatW
