/-
  What the reference's 'Sub' and 'Compare' return.
-/
import Derived.Test.YtjighmmfaedgbaaDoorRatRefA
namespace Go.Proofs.YtjighmmfaedgbaaDoor.RatW
open Go Go.RowKit Go.Proofs.YtjighmmfaedgbaaDoor.RatM

theorem sg_not {s : Bool} {n : Nat} : sg (!s) n = -sg s n := by unfold sg; cases s <;> simp
theorem sub_res {a b c d : Int} {neg : Bool} {N : Nat} (h1 : validS a b = true) (h2 : validS c d = true) (hs : sg neg N = a * d - c * b) : quo neg N (b.natAbs * d.natAbs) = subS a b c d := by
  have b2 := (valid_iff.1 h1).1
  have d2 := (valid_iff.1 h2).1
  unfold subS
  rw [h1, h2, Int.natAbs_mul, quo_zq _ _ (Nat.mul_pos (by omega) (by omega)), hs]
  rfl
theorem ret2c {r s : Int × Int} (h : r = s) : Ending.returned (.tuple #[.int .i64 r.1, .int .i64 r.2]) = .returned (.tuple #[.int .i64 s.1, .int .i64 s.2]) := by rw [h]
def tCmp (w : World) (r : Int × Int) (e : Ending) (w' : World) : Prop := e = .returned (.tuple #[.int .i64 r.1, .int .i64 r.2]) ∧ Below w.heap.size w w'
theorem cmp_zero {a b c d : Int} {neg : Bool} (h1 : validS a b = true) (h2 : validS c d = true) (hs : sg neg 0 = a * d - c * b) : ((0 : Int), (0 : Int)) = cmpS a b c d := by
  have : sg neg 0 = 0 := by unfold sg; cases neg <;> rfl
  unfold cmpS
  rw [h1, h2]
  simp only [Bool.and_self, if_true]
  rw [if_neg (by omega), if_pos (by omega)]
theorem cmp_neg {a b c d : Int} {N : Nat} (h1 : validS a b = true) (h2 : validS c d = true) (hN : 0 < N) (hs : sg true N = a * d - c * b) : ((-1 : Int), (0 : Int)) = cmpS a b c d := by
  have : sg true N = -(N : Int) := rfl
  unfold cmpS
  rw [h1, h2]
  simp only [Bool.and_self, if_true]
  rw [if_pos (by omega)]
theorem cmp_pos {a b c d : Int} {N : Nat} (h1 : validS a b = true) (h2 : validS c d = true) (hN : 0 < N) (hs : sg false N = a * d - c * b) : ((1 : Int), (0 : Int)) = cmpS a b c d := by
  have : sg false N = (N : Int) := rfl
  unfold cmpS
  rw [h1, h2]
  simp only [Bool.and_self, if_true]
  rw [if_neg (by omega), if_neg (by omega)]
set_option maxRecDepth 100000 in
set_option maxHeartbeats 16000000 in
theorem subYes (a b c d : Int) (w : World) (a0 : -9223372036854775808 ≤ a) (a1 : a ≤ 9223372036854775807) (b0 : -9223372036854775808 ≤ b) (b1 : b ≤ 9223372036854775807)
    (c0 : -9223372036854775808 ≤ c) (c1 : c ≤ 9223372036854775807) (d0 : -9223372036854775808 ≤ d) (d1 : d ≤ 9223372036854775807) (h1 : validS a b = true) (h2 : validS c d = true) :
    Calls Tryd.prog 20 #[rv a b, rv c d] w (tRes w (subS a b c d)) := by
  obtain ⟨W0, hW0⟩ : ∃ W0, ((w.alloc (.cells #[.int .i64 a, .int .i64 b] 23)).alloc (.cells #[.int .i64 c, .int .i64 d] 23)).alloc (.cells #[.int .i64 0, .int .i64 0] 23) = W0 := ⟨_, rfl⟩
  have H2 : Hid (Two W0 w.heap.size (.int .i64 a) (.int .i64 b)) := Lib.hid (by rw [← hW0]; exact ((Two.new _ _ _ _).alloc _).alloc _)
  have H3 : Hid (Two W0 (w.heap.size + 1) (.int .i64 c) (.int .i64 d)) := Lib.hid (by rw [← hW0]; exact (Two.at_ (by simp) _ _ _).alloc _)
  have H4 : Hid (Two W0 (w.heap.size + 1 + 1) (.int .i64 0) (.int .i64 0)) := Lib.hid (by rw [← hW0]; exact Two.at_ (by simp) _ _ _)
  have HBW : Hid (Below w.heap.size w W0) := Lib.hid (by rw [← hW0]; exact (((Below.refl _ _).alloc (Nat.le_refl _) _).alloc (by simp) _).alloc (by simp; omega) _)
  have hz0 : w.heap.size + 1 + 1 < W0.heap.size := H4.out.lt
  have HW := Lib.hid hW0
  clear hW0
  have b2 := (valid_iff.1 h1).1
  have d2 := (valid_iff.1 h2).1
  have HV1 := Lib.hid h1
  have HV2 := Lib.hid h2
  clear h1 h2
  have e0 := H2.out.c0
  have e1 := H2.out.c1
  have e2 := H3.out.c0
  have e3 := H3.out.c1
  go_enter Tryd.func20, Tryd.ntmps20
  go_wp2_with (first
    | (rw [HW.out]; (go_at_call 16; ((refine (validRef_any a b W0 a0 a1 b0 b1).mono ?_); rintro e w1 ⟨rfl, hb1⟩; rw [HV1.out]; have HB1 := Lib.hid hb1; have f0 := (H3.out.stay hb1).c0; have f1 := (H3.out.stay hb1).c1; clear hb1)))
    | (go_at_call 16; ((refine (validRef_any c d w1 c0 c1 d0 d1).mono ?_); rintro e w2 ⟨rfl, hb2⟩; rw [HV2.out]; have HB2 : Hid (Below W0.heap.size W0 w2) := Lib.hid (Below.then_ HB1.out hb2); clear f0 f1 e0 e1 e2 e3 hb2; have K := s4 (H2.out.stay HB2.out) (H3.out.stay HB2.out)))
    | (go_at_call 42; ((with_reducible refine (cross_any c d a b w2 c0 c1 b2 b1).mono ?_); rintro e w4 ⟨nb, vb, Nb, rfl, hs, hv, hl, hb⟩; have HB4 : Hid (Below W0.heap.size W0 w4) := Lib.hid (Below.then_ HB2.out hb); have GB := Lib.hid hs; have FB4 := Lib.hid hv; have lb : (digs Nb).length ≤ 18 := hl; have K := s4 (H2.out.stay HB4.out) (H3.out.stay HB4.out); obtain ⟨A4, m4, k4, rfl⟩ := hv.is; clear hs hv hl hb)))
  clear K
  obtain ⟨w5, hw5⟩ : ∃ w5, w4.alloc (.cells #[.bool !nb, .slice A4 m4 k4] 57) = w5 := ⟨_, rfl⟩
  obtain ⟨g6, hg6⟩ : ∃ g6, w4.heap.size = g6 := ⟨_, rfl⟩
  have D6 : Two w5 g6 (.bool !nb) (.slice A4 m4 k4) := by rw [← hw5, ← hg6]; exact Two.new _ _ _ _
  have HB5 : Hid (Below W0.heap.size W0 w5) := Lib.hid (by rw [← hw5]; exact HB4.out.alloc HB4.out.size _)
  have FB5 : Hid (Bg w5 w5.heap.size (.slice A4 m4 k4) Nb) := Lib.hid (by rw [← hw5]; exact FB4.out.later ((Below.refl _ _).alloc (Nat.le_refl _) _))
  have hg7 : W0.heap.size ≤ g6 := by rw [← hg6]; exact HB4.out.size
  rw [hw5, hg6]
  clear hw5 hg6 FB4
  obtain ⟨vb, hvb⟩ : ∃ vb, Value.slice A4 m4 k4 = vb := ⟨_, rfl⟩
  rw [hvb] at D6 FB5 ⊢
  clear hvb
  have D2 := H2.out.stay HB5.out
  have D3 := H3.out.stay HB5.out
  have hz2 : W0.heap.size ≤ w5.heap.size := HB5.out.size
  have hz6 : g6 < w5.heap.size := D6.lt
  go_cut [7] (fun s7 wx => Held w5 wx (a * d - c * b) s7)
  case first =>
    go_region_held3 (fun w' => w'.cell? ⟨w.heap.size, 0, none⟩ = some (.int .i64 a) ∧ w'.cell? ⟨w.heap.size, 1, none⟩ = some (.int .i64 b) ∧ w'.cell? ⟨w.heap.size + 1, 0, none⟩ = some (.int .i64 c) ∧ w'.cell? ⟨w.heap.size + 1, 1, none⟩ = some (.int .i64 d) ∧ w'.cell? ⟨g6, 0, none⟩ = some (.bool !nb) ∧ w'.cell? ⟨g6, 1, none⟩ = some vb) (first | assumption | exact s6 D2.drew D3.drew D6.drew | exact s6 (D2.drew.alloc _) (D3.drew.alloc _) (D6.drew.alloc _) | exact s6 (D2.alloc _).drew (D3.alloc _).drew (D6.alloc _).drew | exact s6 (Y2.alloc _) (Y3.alloc _) (Y6.alloc _) | exact s6 (C2.alloc _) (C3.alloc _) (C6.alloc _) | exact s6 ((C2.far (by omega)).far (by omega)) ((C3.far (by omega)).far (by omega)) ((C6.far (by omega)).far (by omega)) | fail)
    (first
      | (go_at_call 42; ((with_reducible refine (cross_any a b c d _ a0 a1 d2 d1).mono ?_); rintro e wy ⟨na, va, Na, rfl, hs, hv, hl, hb⟩; have HY : Hid (Below w5.heap.size w5 wy) := Lib.hid (by first | exact below_drew hb | exact below_drew (below_new hb) | exact below_new (below_drew hb)); have zy : w5.heap.size ≤ wy.heap.size := HY.out.size; have Y2 := D2.stay HY.out; have Y3 := D3.stay HY.out; have Y6 := D6.stay HY.out; have SY := s6 Y2 Y3 Y6; (first | (have T7 := Lib.hid (two_new hb)) | (have T7 := Lib.hid (two_new (below_drew hb))) | (have T7 := Lib.hid (T7.out.stay hb)) | skip); have GA := Lib.hid hs; have FA := Lib.hid hv; have la : (digs Na).length ≤ 18 := hl; have FB := Lib.hid (FB5.out.later HY.out); clear hs hv hl hb))
      | (go_at_call 41; ((first | (with_reducible refine (sum_any na (!nb) va vb Na Nb wy.heap.size wy FA.out FB.out la lb (Nat.le_refl _)).mono ?_) | (with_reducible refine (sum_any na (!nb) va vb Na Nb wy.heap.size (wy.alloc _) (FA.out.below ((Below.refl _ _).alloc (Nat.le_refl _) _) (Nat.le_refl _)) (FB.out.below ((Below.refl _ _).alloc (Nat.le_refl _) _) (Nat.le_refl _)) la lb (by simp)).mono ?_)); rintro e wc ⟨ns, vs, Ns, rfl, hs, hv, hl, hb⟩; obtain ⟨A1, m1, k1, rfl⟩ := hv.is; have HC : Hid (Below w5.heap.size w5 wc) := Lib.hid (Below.then_ HY.out (by first | exact hb | exact below_new hb)); have zc : w5.heap.size ≤ wc.heap.size := HC.out.size; have C2 := D2.stay HC.out; have C3 := D3.stay HC.out; have C6 := D6.stay HC.out; have SC := s6 C2 C3 C6; (first | (have T7 := Lib.hid (two_new hb)) | (have T7 := Lib.hid (two_new (below_drew hb))) | (have T7 := Lib.hid (T7.out.stay hb)) | skip); have GS := Lib.hid hs; have FS := Lib.hid hv; have GL := Lib.hid hl; clear hs hv hl hb; (try (obtain ⟨_, q0, q1, q2, q3⟩ := T7.out)))))
    all_goals
      go_wp2_with fail
      go_meet
      have GT : sg ns Ns = a * d - c * b := (by rw [GS.out, GA.out, sg_not, GB.out]; omega)
      first
        | exact held_alloc GT FS.out GL.out HC.out
        | exact held_set T7.out (by omega) GT FS.out GL.out HC.out
  case rest =>
    obtain ⟨g, neg, v3, N, rfl, hg, D6', hsg, hbg, hln, hbw⟩ := hcut
    clear D6
    have D6 := D6'
    clear D6'
    have HR0 := Lib.hid (sub_res HV1.out HV2.out hsg)
    have FN := Lib.hid hbg
    have LN := hln
    have HBC : Hid (Below W0.heap.size W0 wc) := Lib.hid (Below.then_ HB5.out hbw)
    clear hsg hbg hln D2 D3 hbw
    have D2 := H2.out.stay HBC.out
    have D3 := H3.out.stay HBC.out
    have D4 := H4.out.stay HBC.out
    have lb : (digs b.natAbs).length ≤ 9 := Nat.le_trans (digs_i64 (by omega)) (by omega)
    have ld : (digs d.natAbs).length ≤ 9 := Nat.le_trans (digs_i64 (by omega)) (by omega)
    have LD : (digs (b.natAbs * d.natAbs)).length ≤ 19 := Nat.le_trans (digs_mul _ _) (by omega)
    have DP : 0 < b.natAbs * d.natAbs := Nat.mul_pos (by omega) (by omega)
    have lb : (digs b.natAbs).length ≤ 20 := Nat.le_trans lb (by omega)
    have ld : (digs d.natAbs).length ≤ 20 := Nat.le_trans ld (by omega)
    go_wp2
    go_region_held3 (fun w' => w'.cell? ⟨w.heap.size, 0, none⟩ = some (.int .i64 a) ∧ w'.cell? ⟨w.heap.size, 1, none⟩ = some (.int .i64 b) ∧ w'.cell? ⟨w.heap.size + 1, 0, none⟩ = some (.int .i64 c) ∧ w'.cell? ⟨w.heap.size + 1, 1, none⟩ = some (.int .i64 d) ∧ w'.cell? ⟨g, 0, none⟩ = some (.bool neg) ∧ w'.cell? ⟨g, 1, none⟩ = some v3) (first | assumption | exact s6 D2.drew D3.drew D6.drew | exact s6 ((Q2.far (by omega)).far (by omega)) ((Q3.far (by omega)).far (by omega)) ((Q6.far (by omega)).far (by omega)) | fail)
    (first
      | (go_at_call 38; ((with_reducible refine (size_any d wy (by omega) d1).mono ?_); rintro e wz ⟨vd, rfl, hv, hb⟩; have HZ : Hid (Below wc.heap.size wc wz) := Lib.hid (Below.then_ HY.out hb); have K := s6 (D2.stay HZ.out) (D3.stay HZ.out) (D6.stay HZ.out); have FD := Lib.hid hv; have FB := Lib.hid (FB.out.later hb); clear hv hb))
      | (go_at_call 38; ((with_reducible refine (size_any b wy (by omega) b1).mono ?_); rintro e wz ⟨vb, rfl, hv, hb⟩; have HZ : Hid (Below wc.heap.size wc wz) := Lib.hid (Below.then_ HY.out hb); have K := s6 (D2.stay HZ.out) (D3.stay HZ.out) (D6.stay HZ.out); have FB := Lib.hid hv; have FD := Lib.hid (FD.out.later hb); clear hv hb))
      | (go_at_call 38; ((with_reducible refine (size_any b wc.drew (by omega) b1).mono ?_); rintro e wy ⟨vb, rfl, hv, hb⟩; have HY : Hid (Below wc.heap.size wc wy) := Lib.hid (below_drew hb); have K := s6 (D2.stay HY.out) (D3.stay HY.out) (D6.stay HY.out); have FB := Lib.hid hv; clear hv hb))
      | (go_at_call 38; ((with_reducible refine (size_any d wc.drew (by omega) d1).mono ?_); rintro e wy ⟨vd, rfl, hv, hb⟩; have HY : Hid (Below wc.heap.size wc wy) := Lib.hid (below_drew hb); have K := s6 (D2.stay HY.out) (D3.stay HY.out) (D6.stay HY.out); have FD := Lib.hid hv; clear hv hb))
      | (go_at_call 43; ((with_reducible refine (times_any vb vd b.natAbs d.natAbs wz.heap.size wz FB.out FD.out lb ld (Nat.le_refl _)).mono ?_); rintro e wt ⟨vt, rfl, hv, hb⟩; have HT : Hid (Below wc.heap.size wc wt) := Lib.hid (Below.then_ HZ.out hb); have K := s6 (D2.stay HT.out) (D3.stay HT.out) (D6.stay HT.out); have FT := Lib.hid hv; have FS := Lib.hid (FN.out.later HT.out); clear hv hb))
      | (go_at_call 37; ((with_reducible refine (quotient_any neg v3 vt N (b.natAbs * d.natAbs) wt.heap.size wt FS.out FT.out LN LD DP (Nat.le_refl _)).mono ?_); rintro e wq hq; obtain ⟨x, y, k, hr, rfl, hb⟩ := tRes_open hq; have HR := Lib.hid hr; have HQ : Hid (Below wc.heap.size wc wq) := Lib.hid (Below.then_ HT.out hb); have K := s6 (D2.stay HQ.out) (D3.stay HQ.out) (D6.stay HQ.out); obtain ⟨_, q0, q1, q2, q3⟩ := D4.stay HQ.out; have Q2 := D2.stay HQ.out; have Q3 := D3.stay HQ.out; have Q6 := D6.stay HQ.out; clear hq hr hb)))
    all_goals
      go_wp2
      refine bodyPost_ret (v := .tuple #[.agg #[.int .i64 x, .int .i64 y], .int .i64 k]) (by simp [results, Tryd.results20, go_sem, q0, q1]) rfl ?_
      exact ⟨by rw [resV_mk (HR.out.symm.trans HR0.out)], (((HBW.out.trans (HBC.out.mono HBW.out.size)).trans (HQ.out.mono (Nat.le_trans HBW.out.size HBC.out.size))).setCell (by simp; omega) _).setCell (by simp; omega) _⟩
set_option maxRecDepth 100000 in
set_option maxHeartbeats 16000000 in
theorem subNo1 (a b c d : Int) (w : World) (a0 : -9223372036854775808 ≤ a) (a1 : a ≤ 9223372036854775807) (b0 : -9223372036854775808 ≤ b) (b1 : b ≤ 9223372036854775807)
     (h1 : validS a b = false) :
    Calls Tryd.prog 20 #[rv a b, rv c d] w (tRes w (subS a b c d)) := by
  obtain ⟨W0, hW0⟩ : ∃ W0, ((w.alloc (.cells #[.int .i64 a, .int .i64 b] 23)).alloc (.cells #[.int .i64 c, .int .i64 d] 23)).alloc (.cells #[.int .i64 0, .int .i64 0] 23) = W0 := ⟨_, rfl⟩
  have H2 : Hid (Two W0 w.heap.size (.int .i64 a) (.int .i64 b)) := Lib.hid (by rw [← hW0]; exact ((Two.new _ _ _ _).alloc _).alloc _)
  have H3 : Hid (Two W0 (w.heap.size + 1) (.int .i64 c) (.int .i64 d)) := Lib.hid (by rw [← hW0]; exact (Two.at_ (by simp) _ _ _).alloc _)
  have H4 : Hid (Two W0 (w.heap.size + 1 + 1) (.int .i64 0) (.int .i64 0)) := Lib.hid (by rw [← hW0]; exact Two.at_ (by simp) _ _ _)
  have HBW : Hid (Below w.heap.size w W0) := Lib.hid (by rw [← hW0]; exact (((Below.refl _ _).alloc (Nat.le_refl _) _).alloc (by simp) _).alloc (by simp; omega) _)
  have hz0 : w.heap.size + 1 + 1 < W0.heap.size := H4.out.lt
  have HW := Lib.hid hW0
  clear hW0
  have HS : Hid ((0, 0, 1) = subS a b c d) := Lib.hid (by unfold subS; rw [h1]; simp)
  have HV1 := Lib.hid h1
  clear h1
  have e0 := H2.out.c0
  have e1 := H2.out.c1
  go_enter Tryd.func20, Tryd.ntmps20
  go_wp2_with (first
    | (rw [HW.out]; (go_at_call 16; ((refine (validRef_any a b W0 a0 a1 b0 b1).mono ?_); rintro e w1 ⟨rfl, hb1⟩; rw [HV1.out]; have HB1 := Lib.hid hb1; have f0 := (H3.out.stay hb1).c0; have f1 := (H3.out.stay hb1).c1; obtain ⟨_, q0, q1, q2, q3⟩ := H4.out.stay HB1.out; clear hb1))))
  refine bodyPost_ret (v := .tuple #[.agg #[.int .i64 0, .int .i64 0], .int .i64 1]) (by simp [results, Tryd.results20, go_sem, q0, q1]) rfl ?_
  exact ⟨by rw [resV_mk HS.out], ((HBW.out.trans (HB1.out.mono HBW.out.size)).setCell (by simp; omega) _).setCell (by simp; omega) _⟩
set_option maxRecDepth 100000 in
set_option maxHeartbeats 16000000 in
theorem subNo2 (a b c d : Int) (w : World) (a0 : -9223372036854775808 ≤ a) (a1 : a ≤ 9223372036854775807) (b0 : -9223372036854775808 ≤ b) (b1 : b ≤ 9223372036854775807)
    (c0 : -9223372036854775808 ≤ c) (c1 : c ≤ 9223372036854775807) (d0 : -9223372036854775808 ≤ d) (d1 : d ≤ 9223372036854775807) (h1 : validS a b = true) (h2 : validS c d = false) :
    Calls Tryd.prog 20 #[rv a b, rv c d] w (tRes w (subS a b c d)) := by
  obtain ⟨W0, hW0⟩ : ∃ W0, ((w.alloc (.cells #[.int .i64 a, .int .i64 b] 23)).alloc (.cells #[.int .i64 c, .int .i64 d] 23)).alloc (.cells #[.int .i64 0, .int .i64 0] 23) = W0 := ⟨_, rfl⟩
  have H2 : Hid (Two W0 w.heap.size (.int .i64 a) (.int .i64 b)) := Lib.hid (by rw [← hW0]; exact ((Two.new _ _ _ _).alloc _).alloc _)
  have H3 : Hid (Two W0 (w.heap.size + 1) (.int .i64 c) (.int .i64 d)) := Lib.hid (by rw [← hW0]; exact (Two.at_ (by simp) _ _ _).alloc _)
  have H4 : Hid (Two W0 (w.heap.size + 1 + 1) (.int .i64 0) (.int .i64 0)) := Lib.hid (by rw [← hW0]; exact Two.at_ (by simp) _ _ _)
  have HBW : Hid (Below w.heap.size w W0) := Lib.hid (by rw [← hW0]; exact (((Below.refl _ _).alloc (Nat.le_refl _) _).alloc (by simp) _).alloc (by simp; omega) _)
  have hz0 : w.heap.size + 1 + 1 < W0.heap.size := H4.out.lt
  have HW := Lib.hid hW0
  clear hW0
  have HS : Hid ((0, 0, 1) = subS a b c d) := Lib.hid (by unfold subS; rw [h1, h2]; simp)
  have HV1 := Lib.hid h1
  have HV2 := Lib.hid h2
  clear h1 h2
  have e0 := H2.out.c0
  have e1 := H2.out.c1
  go_enter Tryd.func20, Tryd.ntmps20
  go_wp2_with (first
    | (rw [HW.out]; (go_at_call 16; ((refine (validRef_any a b W0 a0 a1 b0 b1).mono ?_); rintro e w1 ⟨rfl, hb1⟩; rw [HV1.out]; have HB1 := Lib.hid hb1; have f0 := (H3.out.stay hb1).c0; have f1 := (H3.out.stay hb1).c1; clear hb1)))
    | (go_at_call 16; ((refine (validRef_any c d w1 c0 c1 d0 d1).mono ?_); rintro e w2 ⟨rfl, hb2⟩; rw [HV2.out]; have HB2 : Hid (Below W0.heap.size W0 w2) := Lib.hid (Below.then_ HB1.out hb2); obtain ⟨_, q0, q1, q2, q3⟩ := H4.out.stay HB2.out; clear f0 f1 hb2)))
  refine bodyPost_ret (v := .tuple #[.agg #[.int .i64 0, .int .i64 0], .int .i64 1]) (by simp [results, Tryd.results20, go_sem, q0, q1]) rfl ?_
  exact ⟨by rw [resV_mk HS.out], ((HBW.out.trans (HB2.out.mono HBW.out.size)).setCell (by simp; omega) _).setCell (by simp; omega) _⟩
theorem subRef_any (a b c d : Int) (w : World) (a0 : -9223372036854775808 ≤ a) (a1 : a ≤ 9223372036854775807) (b0 : -9223372036854775808 ≤ b) (b1 : b ≤ 9223372036854775807)
    (c0 : -9223372036854775808 ≤ c) (c1 : c ≤ 9223372036854775807) (d0 : -9223372036854775808 ≤ d) (d1 : d ≤ 9223372036854775807) :
    Calls Tryd.prog 20 #[rv a b, rv c d] w (tRes w (subS a b c d)) := by
  cases h1 : validS a b
  · exact subNo1 a b c d w a0 a1 b0 b1 h1
  · cases h2 : validS c d
    · exact subNo2 a b c d w a0 a1 b0 b1 c0 c1 d0 d1 h1 h2
    · exact subYes a b c d w a0 a1 b0 b1 c0 c1 d0 d1 h1 h2
set_option maxRecDepth 100000 in
set_option maxHeartbeats 16000000 in
theorem compareYes (a b c d : Int) (w : World) (a0 : -9223372036854775808 ≤ a) (a1 : a ≤ 9223372036854775807) (b0 : -9223372036854775808 ≤ b) (b1 : b ≤ 9223372036854775807)
    (c0 : -9223372036854775808 ≤ c) (c1 : c ≤ 9223372036854775807) (d0 : -9223372036854775808 ≤ d) (d1 : d ≤ 9223372036854775807) (h1 : validS a b = true) (h2 : validS c d = true) :
    Calls Tryd.prog 26 #[rv a b, rv c d] w (tCmp w (cmpS a b c d)) := by
  obtain ⟨W0, hW0⟩ : ∃ W0, (w.alloc (.cells #[.int .i64 a, .int .i64 b] 23)).alloc (.cells #[.int .i64 c, .int .i64 d] 23) = W0 := ⟨_, rfl⟩
  have H2 : Hid (Two W0 w.heap.size (.int .i64 a) (.int .i64 b)) := Lib.hid (by rw [← hW0]; exact (Two.new _ _ _ _).alloc _)
  have H3 : Hid (Two W0 (w.heap.size + 1) (.int .i64 c) (.int .i64 d)) := Lib.hid (by rw [← hW0]; exact Two.at_ (by simp) _ _ _)
  have HBW : Hid (Below w.heap.size w W0) := Lib.hid (by rw [← hW0]; exact ((Below.refl _ _).alloc (Nat.le_refl _) _).alloc (by simp) _)
  have hz0 : w.heap.size + 1 < W0.heap.size := H3.out.lt
  have HW := Lib.hid hW0
  clear hW0
  have b2 := (valid_iff.1 h1).1
  have d2 := (valid_iff.1 h2).1
  have HV1 := Lib.hid h1
  have HV2 := Lib.hid h2
  clear h1 h2
  have e0 := H2.out.c0
  have e1 := H2.out.c1
  have e2 := H3.out.c0
  have e3 := H3.out.c1
  go_enter Tryd.func26, Tryd.ntmps26
  go_wp2_with (first
    | (rw [HW.out]; (go_at_call 16; ((refine (validRef_any a b W0 a0 a1 b0 b1).mono ?_); rintro e w1 ⟨rfl, hb1⟩; rw [HV1.out]; have HB1 := Lib.hid hb1; have f0 := (H3.out.stay hb1).c0; have f1 := (H3.out.stay hb1).c1; clear hb1)))
    | (go_at_call 16; ((refine (validRef_any c d w1 c0 c1 d0 d1).mono ?_); rintro e w2 ⟨rfl, hb2⟩; rw [HV2.out]; have HB2 : Hid (Below W0.heap.size W0 w2) := Lib.hid (Below.then_ HB1.out hb2); clear f0 f1 e0 e1 e2 e3 hb2; have K := s4 (H2.out.stay HB2.out) (H3.out.stay HB2.out)))
    | (go_at_call 42; ((with_reducible refine (cross_any c d a b w2 c0 c1 b2 b1).mono ?_); rintro e w4 ⟨nb, vb, Nb, rfl, hs, hv, hl, hb⟩; have HB4 : Hid (Below W0.heap.size W0 w4) := Lib.hid (Below.then_ HB2.out hb); have GB := Lib.hid hs; have FB4 := Lib.hid hv; have lb : (digs Nb).length ≤ 18 := hl; have K := s4 (H2.out.stay HB4.out) (H3.out.stay HB4.out); obtain ⟨A4, m4, k4, rfl⟩ := hv.is; clear hs hv hl hb)))
  clear K
  obtain ⟨w5, hw5⟩ : ∃ w5, w4.alloc (.cells #[.bool !nb, .slice A4 m4 k4] 57) = w5 := ⟨_, rfl⟩
  obtain ⟨g6, hg6⟩ : ∃ g6, w4.heap.size = g6 := ⟨_, rfl⟩
  have D6 : Two w5 g6 (.bool !nb) (.slice A4 m4 k4) := by rw [← hw5, ← hg6]; exact Two.new _ _ _ _
  have HB5 : Hid (Below W0.heap.size W0 w5) := Lib.hid (by rw [← hw5]; exact HB4.out.alloc HB4.out.size _)
  have FB5 : Hid (Bg w5 w5.heap.size (.slice A4 m4 k4) Nb) := Lib.hid (by rw [← hw5]; exact FB4.out.later ((Below.refl _ _).alloc (Nat.le_refl _) _))
  have hg7 : W0.heap.size ≤ g6 := by rw [← hg6]; exact HB4.out.size
  rw [hw5, hg6]
  clear hw5 hg6 FB4
  obtain ⟨vb, hvb⟩ : ∃ vb, Value.slice A4 m4 k4 = vb := ⟨_, rfl⟩
  rw [hvb] at D6 FB5 ⊢
  clear hvb
  have D2 := H2.out.stay HB5.out
  have D3 := H3.out.stay HB5.out
  have hz2 : W0.heap.size ≤ w5.heap.size := HB5.out.size
  have hz6 : g6 < w5.heap.size := D6.lt
  go_cut [7] (fun s7 wx => Held w5 wx (a * d - c * b) s7)
  case first =>
    go_region_held3 (fun w' => w'.cell? ⟨w.heap.size, 0, none⟩ = some (.int .i64 a) ∧ w'.cell? ⟨w.heap.size, 1, none⟩ = some (.int .i64 b) ∧ w'.cell? ⟨w.heap.size + 1, 0, none⟩ = some (.int .i64 c) ∧ w'.cell? ⟨w.heap.size + 1, 1, none⟩ = some (.int .i64 d) ∧ w'.cell? ⟨g6, 0, none⟩ = some (.bool !nb) ∧ w'.cell? ⟨g6, 1, none⟩ = some vb) (first | assumption | exact s6 D2.drew D3.drew D6.drew | exact s6 (D2.drew.alloc _) (D3.drew.alloc _) (D6.drew.alloc _) | exact s6 (D2.alloc _).drew (D3.alloc _).drew (D6.alloc _).drew | exact s6 (Y2.alloc _) (Y3.alloc _) (Y6.alloc _) | exact s6 (C2.alloc _) (C3.alloc _) (C6.alloc _) | exact s6 ((C2.far (by omega)).far (by omega)) ((C3.far (by omega)).far (by omega)) ((C6.far (by omega)).far (by omega)) | fail)
    (first
      | (go_at_call 42; ((with_reducible refine (cross_any a b c d _ a0 a1 d2 d1).mono ?_); rintro e wy ⟨na, va, Na, rfl, hs, hv, hl, hb⟩; have HY : Hid (Below w5.heap.size w5 wy) := Lib.hid (by first | exact below_drew hb | exact below_drew (below_new hb) | exact below_new (below_drew hb)); have zy : w5.heap.size ≤ wy.heap.size := HY.out.size; have Y2 := D2.stay HY.out; have Y3 := D3.stay HY.out; have Y6 := D6.stay HY.out; have SY := s6 Y2 Y3 Y6; (first | (have T7 := Lib.hid (two_new hb)) | (have T7 := Lib.hid (two_new (below_drew hb))) | (have T7 := Lib.hid (T7.out.stay hb)) | skip); have GA := Lib.hid hs; have FA := Lib.hid hv; have la : (digs Na).length ≤ 18 := hl; have FB := Lib.hid (FB5.out.later HY.out); clear hs hv hl hb))
      | (go_at_call 41; ((first | (with_reducible refine (sum_any na (!nb) va vb Na Nb wy.heap.size wy FA.out FB.out la lb (Nat.le_refl _)).mono ?_) | (with_reducible refine (sum_any na (!nb) va vb Na Nb wy.heap.size (wy.alloc _) (FA.out.below ((Below.refl _ _).alloc (Nat.le_refl _) _) (Nat.le_refl _)) (FB.out.below ((Below.refl _ _).alloc (Nat.le_refl _) _) (Nat.le_refl _)) la lb (by simp)).mono ?_)); rintro e wc ⟨ns, vs, Ns, rfl, hs, hv, hl, hb⟩; obtain ⟨A1, m1, k1, rfl⟩ := hv.is; have HC : Hid (Below w5.heap.size w5 wc) := Lib.hid (Below.then_ HY.out (by first | exact hb | exact below_new hb)); have zc : w5.heap.size ≤ wc.heap.size := HC.out.size; have C2 := D2.stay HC.out; have C3 := D3.stay HC.out; have C6 := D6.stay HC.out; have SC := s6 C2 C3 C6; (first | (have T7 := Lib.hid (two_new hb)) | (have T7 := Lib.hid (two_new (below_drew hb))) | (have T7 := Lib.hid (T7.out.stay hb)) | skip); have GS := Lib.hid hs; have FS := Lib.hid hv; have GL := Lib.hid hl; clear hs hv hl hb; (try (obtain ⟨_, q0, q1, q2, q3⟩ := T7.out)))))
    all_goals
      go_wp2_with fail
      go_meet
      have GT : sg ns Ns = a * d - c * b := (by rw [GS.out, GA.out, sg_not, GB.out]; omega)
      first
        | exact held_alloc GT FS.out GL.out HC.out
        | exact held_set T7.out (by omega) GT FS.out GL.out HC.out
  case rest =>
    obtain ⟨g, neg, v3, N, rfl, hg, D6', hsg, hbg, hln, hbw⟩ := hcut
    clear D6
    have D6 := D6'
    clear D6'
    have HBC : Hid (Below W0.heap.size W0 wc) := Lib.hid (Below.then_ HB5.out hbw)
    obtain ⟨A9, k9, rfl, hc9, hx9⟩ := hbg
    clear hx9 hc9 D2 D3
    have r0 := D6.c0
    have r1 := D6.c1
    clear D6 hbw
    by_cases hN : N = 0
    · subst hN
      have HR := Lib.hid (cmp_zero HV1.out HV2.out hsg)
      clear hsg
      rw [digs_zero_len] at r1
      go_wp2
      go_ret2
      exact ⟨ret2c HR.out, HBW.out.trans (HBC.out.mono HBW.out.size)⟩
    · have hp : 0 < (digs N).length := digs_pos_len (by omega)
      cases neg
      · have HR := Lib.hid (cmp_pos HV1.out HV2.out (by omega) hsg)
        clear hsg hN
        go_wp2
        go_ret2
        exact ⟨ret2c HR.out, HBW.out.trans (HBC.out.mono HBW.out.size)⟩
      · have HR := Lib.hid (cmp_neg HV1.out HV2.out (by omega) hsg)
        clear hsg hN
        go_wp2
        go_ret2
        exact ⟨ret2c HR.out, HBW.out.trans (HBC.out.mono HBW.out.size)⟩
set_option maxRecDepth 100000 in
set_option maxHeartbeats 16000000 in
theorem compareNo1 (a b c d : Int) (w : World) (a0 : -9223372036854775808 ≤ a) (a1 : a ≤ 9223372036854775807) (b0 : -9223372036854775808 ≤ b) (b1 : b ≤ 9223372036854775807)
     (h1 : validS a b = false) :
    Calls Tryd.prog 26 #[rv a b, rv c d] w (tCmp w (cmpS a b c d)) := by
  obtain ⟨W0, hW0⟩ : ∃ W0, (w.alloc (.cells #[.int .i64 a, .int .i64 b] 23)).alloc (.cells #[.int .i64 c, .int .i64 d] 23) = W0 := ⟨_, rfl⟩
  have H2 : Hid (Two W0 w.heap.size (.int .i64 a) (.int .i64 b)) := Lib.hid (by rw [← hW0]; exact (Two.new _ _ _ _).alloc _)
  have H3 : Hid (Two W0 (w.heap.size + 1) (.int .i64 c) (.int .i64 d)) := Lib.hid (by rw [← hW0]; exact Two.at_ (by simp) _ _ _)
  have HBW : Hid (Below w.heap.size w W0) := Lib.hid (by rw [← hW0]; exact ((Below.refl _ _).alloc (Nat.le_refl _) _).alloc (by simp) _)
  have hz0 : w.heap.size + 1 < W0.heap.size := H3.out.lt
  have HW := Lib.hid hW0
  clear hW0
  have HS : Hid ((0, 1) = cmpS a b c d) := Lib.hid (by unfold cmpS; rw [h1]; simp)
  have HV1 := Lib.hid h1
  clear h1
  have e0 := H2.out.c0
  have e1 := H2.out.c1
  go_enter Tryd.func26, Tryd.ntmps26
  go_wp2_with (first
    | (rw [HW.out]; (go_at_call 16; ((refine (validRef_any a b W0 a0 a1 b0 b1).mono ?_); rintro e w1 ⟨rfl, hb1⟩; rw [HV1.out]; have HB1 := Lib.hid hb1; have f0 := (H3.out.stay hb1).c0; have f1 := (H3.out.stay hb1).c1; clear hb1))))
  go_ret2
  exact ⟨ret2c HS.out, HBW.out.trans (HB1.out.mono HBW.out.size)⟩
set_option maxRecDepth 100000 in
set_option maxHeartbeats 16000000 in
theorem compareNo2 (a b c d : Int) (w : World) (a0 : -9223372036854775808 ≤ a) (a1 : a ≤ 9223372036854775807) (b0 : -9223372036854775808 ≤ b) (b1 : b ≤ 9223372036854775807)
    (c0 : -9223372036854775808 ≤ c) (c1 : c ≤ 9223372036854775807) (d0 : -9223372036854775808 ≤ d) (d1 : d ≤ 9223372036854775807) (h1 : validS a b = true) (h2 : validS c d = false) :
    Calls Tryd.prog 26 #[rv a b, rv c d] w (tCmp w (cmpS a b c d)) := by
  obtain ⟨W0, hW0⟩ : ∃ W0, (w.alloc (.cells #[.int .i64 a, .int .i64 b] 23)).alloc (.cells #[.int .i64 c, .int .i64 d] 23) = W0 := ⟨_, rfl⟩
  have H2 : Hid (Two W0 w.heap.size (.int .i64 a) (.int .i64 b)) := Lib.hid (by rw [← hW0]; exact (Two.new _ _ _ _).alloc _)
  have H3 : Hid (Two W0 (w.heap.size + 1) (.int .i64 c) (.int .i64 d)) := Lib.hid (by rw [← hW0]; exact Two.at_ (by simp) _ _ _)
  have HBW : Hid (Below w.heap.size w W0) := Lib.hid (by rw [← hW0]; exact ((Below.refl _ _).alloc (Nat.le_refl _) _).alloc (by simp) _)
  have hz0 : w.heap.size + 1 < W0.heap.size := H3.out.lt
  have HW := Lib.hid hW0
  clear hW0
  have HS : Hid ((0, 1) = cmpS a b c d) := Lib.hid (by unfold cmpS; rw [h1, h2]; simp)
  have HV1 := Lib.hid h1
  have HV2 := Lib.hid h2
  clear h1 h2
  have e0 := H2.out.c0
  have e1 := H2.out.c1
  go_enter Tryd.func26, Tryd.ntmps26
  go_wp2_with (first
    | (rw [HW.out]; (go_at_call 16; ((refine (validRef_any a b W0 a0 a1 b0 b1).mono ?_); rintro e w1 ⟨rfl, hb1⟩; rw [HV1.out]; have HB1 := Lib.hid hb1; have f0 := (H3.out.stay hb1).c0; have f1 := (H3.out.stay hb1).c1; clear hb1)))
    | (go_at_call 16; ((refine (validRef_any c d w1 c0 c1 d0 d1).mono ?_); rintro e w2 ⟨rfl, hb2⟩; rw [HV2.out]; have HB2 : Hid (Below W0.heap.size W0 w2) := Lib.hid (Below.then_ HB1.out hb2); clear f0 f1 hb2)))
  go_ret2
  exact ⟨ret2c HS.out, HBW.out.trans (HB2.out.mono HBW.out.size)⟩
theorem compareRef_any (a b c d : Int) (w : World) (a0 : -9223372036854775808 ≤ a) (a1 : a ≤ 9223372036854775807) (b0 : -9223372036854775808 ≤ b) (b1 : b ≤ 9223372036854775807)
    (c0 : -9223372036854775808 ≤ c) (c1 : c ≤ 9223372036854775807) (d0 : -9223372036854775808 ≤ d) (d1 : d ≤ 9223372036854775807) :
    Calls Tryd.prog 26 #[rv a b, rv c d] w (tCmp w (cmpS a b c d)) := by
  cases h1 : validS a b
  · exact compareNo1 a b c d w a0 a1 b0 b1 h1
  · cases h2 : validS c d
    · exact compareNo2 a b c d w a0 a1 b0 b1 c0 c1 d0 d1 h1 h2
    · exact compareYes a b c d w a0 a1 b0 b1 c0 c1 d0 d1 h1 h2
end Go.Proofs.YtjighmmfaedgbaaDoor.RatW
