/-
  What the reference's 'Add' returns.
-/
import Derived.Test.YtjighmmfaedgbaaDoorRatRefC
namespace Go.Proofs.YtjighmmfaedgbaaDoor.RatW
open Go Go.RowKit Go.Proofs.YtjighmmfaedgbaaDoor.RatM

theorem Bg.later {w w' : World} {v : Value} {n : Nat} (h : Bg w w.heap.size v n) (hb : Below w.heap.size w w') : Bg w' w'.heap.size v n := (h.below hb (Nat.le_refl _)).more hb.size
theorem below_new {w w' : World} {o : Obj} (h : Below (w.alloc o).heap.size (w.alloc o) w') : Below w.heap.size w w' := ((Below.refl _ w).alloc (Nat.le_refl _) o).trans (h.mono (by simp))
theorem below_drew {w w' : World} (h : Below w.drew.heap.size w.drew w') : Below w.heap.size w w' := (Below.refl _ w).drew.trans h
theorem two_new {w w' : World} {x y : Value} {t : TypeId} (h : Below (w.alloc (.cells #[x, y] t)).heap.size (w.alloc (.cells #[x, y] t)) w') : Two w' w.heap.size x y := (Two.new w x y t).stay h
theorem Two.drew {w : World} {g : Nat} {x y : Value} (h : Two w g x y) : Two w.drew g x y := ⟨h.lt, h.c0, h.c1, h.f0, h.f1⟩
theorem Two.far {w : World} {g : Nat} {x y : Value} (h : Two w g x y) {g' o : Nat} {z : Value} (hne : g ≠ g') : Two (w.setCell ⟨g', o, none⟩ z) g x y := by
  have hb : (w.setCell ⟨g', o, none⟩ z).heap[g]? = w.heap[g]? := Below.heap_setCell _ _ _ _ hne
  exact ⟨by have := h.lt; simpa [World.setCell] using this, (World.cell?_of_block (w := w) (a := ⟨g, 0, none⟩) hb).trans h.c0, (World.cell?_of_block (w := w) (a := ⟨g, 1, none⟩) hb).trans h.c1, (World.frozen?_of_block (w := w) (a := ⟨g, 0, none⟩) hb).trans h.f0, (World.frozen?_of_block (w := w) (a := ⟨g, 1, none⟩) hb).trans h.f1⟩
theorem s4 {w : World} {g g' : Nat} {x y z u : Value} (h : Two w g x y) (h' : Two w g' z u) : w.cell? ⟨g, 0, none⟩ = some x ∧ w.cell? ⟨g, 1, none⟩ = some y ∧ w.cell? ⟨g', 0, none⟩ = some z ∧ w.cell? ⟨g', 1, none⟩ = some u := ⟨h.c0, h.c1, h'.c0, h'.c1⟩
theorem Two.set2 {w : World} {g : Nat} {x y : Value} (h : Two w g x y) (z u : Value) : Two ((w.setCell ⟨g, 0, none⟩ z).setCell ⟨g, 1, none⟩ u) g z u := by
  have n1 : (⟨g, 0, none⟩ : Addr) ≠ ⟨g, 1, none⟩ := by simp
  refine ⟨by have := h.lt; simpa [World.setCell] using this, ?_, ?_, ?_, ?_⟩
  · rw [World.cell?_setCell_other _ _ _ _ (by simp)]; exact cell_set h.c0
  · exact cell_set (by rw [World.cell?_setCell_other _ _ _ _ (by simp)]; exact h.c1)
  · simp [h.f0]
  · simp [h.f1]
/-- A signed number lies in block g. -/
def Held (W0 wx : World) (x : Int) (p : Value) : Prop := ∃ g neg v N, p = .pointer (some ⟨g, 0, none⟩) ∧ W0.heap.size ≤ g ∧ Two wx g (.bool neg) v ∧ sg neg N = x ∧ Bg wx wx.heap.size v N ∧ (digs N).length ≤ 19 ∧ Below W0.heap.size W0 wx
theorem held_alloc {W0 wc : World} {neg : Bool} {v : Value} {N : Nat} {x : Int} {t : TypeId} (hs : sg neg N = x) (hv : Bg wc wc.heap.size v N) (hl : (digs N).length ≤ 19) (hb : Below W0.heap.size W0 wc) :
    Held W0 (wc.alloc (.cells #[.bool neg, v] t)) x (.pointer (some ⟨wc.heap.size, 0, none⟩)) :=
  ⟨_, neg, v, N, rfl, hb.size, Two.new _ _ _ _, hs, hv.later ((Below.refl _ _).alloc (Nat.le_refl _) _), hl, hb.alloc hb.size _⟩
theorem held_set {W0 wc : World} {neg f : Bool} {v u : Value} {N g : Nat} {x : Int} (h6 : Two wc g (.bool f) u) (hg : W0.heap.size ≤ g) (hs : sg neg N = x) (hv : Bg wc wc.heap.size v N) (hl : (digs N).length ≤ 19) (hb : Below W0.heap.size W0 wc) :
    Held W0 ((wc.setCell ⟨g, 0, none⟩ (.bool neg)).setCell ⟨g, 1, none⟩ v) x (.pointer (some ⟨g, 0, none⟩)) :=
  ⟨_, neg, v, N, rfl, hg, h6.set2 _ _, hs, ((hv.setBool h6.c0 0 (.bool neg)).setBool (b := neg) (cell_set h6.c0) 1 v).more (by simp [World.setCell]), hl, (hb.setCell hg _).setCell hg _⟩
theorem s6 {w : World} {g g' g'' : Nat} {x y z u p q : Value} (h : Two w g x y) (h' : Two w g' z u) (h'' : Two w g'' p q) :
    w.cell? ⟨g, 0, none⟩ = some x ∧ w.cell? ⟨g, 1, none⟩ = some y ∧ w.cell? ⟨g', 0, none⟩ = some z ∧ w.cell? ⟨g', 1, none⟩ = some u ∧ w.cell? ⟨g'', 0, none⟩ = some p ∧ w.cell? ⟨g'', 1, none⟩ = some q := ⟨h.c0, h.c1, h'.c0, h'.c1, h''.c0, h''.c1⟩
theorem add_res {a b c d : Int} {neg : Bool} {N : Nat} (h1 : validS a b = true) (h2 : validS c d = true) (hs : sg neg N = a * d + c * b) : quo neg N (b.natAbs * d.natAbs) = addS a b c d := by
  have b2 := (valid_iff.1 h1).1
  have d2 := (valid_iff.1 h2).1
  unfold addS
  rw [h1, h2, Int.natAbs_mul, quo_zq _ _ (Nat.mul_pos (by omega) (by omega)), hs]
  rfl
set_option maxRecDepth 100000 in
set_option maxHeartbeats 16000000 in
theorem addYes (a b c d : Int) (w : World) (a0 : -9223372036854775808 ≤ a) (a1 : a ≤ 9223372036854775807) (b0 : -9223372036854775808 ≤ b) (b1 : b ≤ 9223372036854775807)
    (c0 : -9223372036854775808 ≤ c) (c1 : c ≤ 9223372036854775807) (d0 : -9223372036854775808 ≤ d) (d1 : d ≤ 9223372036854775807) (h1 : validS a b = true) (h2 : validS c d = true) :
    Calls Tryd.prog 18 #[rv a b, rv c d] w (tRes w (addS a b c d)) := by
  obtain ⟨W0, hW0⟩ : ∃ W0, ((w.alloc (.cells #[.int .i64 a, .int .i64 b] 23)).alloc (.cells #[.int .i64 c, .int .i64 d] 23)).alloc (.cells #[.int .i64 0, .int .i64 0] 23) = W0 := ⟨_, rfl⟩
  have H2 : Hid (Two W0 w.heap.size (.int .i64 a) (.int .i64 b)) := Lib.hid (by rw [← hW0]; exact ((Two.new _ _ _ _).alloc _).alloc _)
  have H3 : Hid (Two W0 (w.heap.size + 1) (.int .i64 c) (.int .i64 d)) := Lib.hid (by rw [← hW0]; exact (Two.at_ (by simp) _ _ _).alloc _)
  have H4 : Hid (Two W0 (w.heap.size + 1 + 1) (.int .i64 0) (.int .i64 0)) := Lib.hid (by rw [← hW0]; exact Two.at_ (by simp) _ _ _)
  have HBW : Hid (Below w.heap.size w W0) := Lib.hid (by rw [← hW0]; exact (((Below.refl _ _).alloc (Nat.le_refl _) _).alloc (by simp) _).alloc (by simp; omega) _)
  have hz0 : w.heap.size + 1 + 1 < W0.heap.size := H4.out.lt
  have HW := Lib.hid hW0
  clear hW0
  have b2 := (valid_iff.1 h1).1
  have d2 := (valid_iff.1 h2).1
  have HV1 := Lib.hid h1
  have HV2 := Lib.hid h2
  clear h1 h2
  have e0 := H2.out.c0
  have e1 := H2.out.c1
  have e2 := H3.out.c0
  have e3 := H3.out.c1
  go_enter Tryd.func18, Tryd.ntmps18
  go_wp2_with (first
    | (rw [HW.out]; (go_at_call 16; ((refine (validRef_any a b W0 a0 a1 b0 b1).mono ?_); rintro e w1 ⟨rfl, hb1⟩; rw [HV1.out]; have HB1 := Lib.hid hb1; have f0 := (H3.out.stay hb1).c0; have f1 := (H3.out.stay hb1).c1; clear hb1)))
    | (go_at_call 16; ((refine (validRef_any c d w1 c0 c1 d0 d1).mono ?_); rintro e w2 ⟨rfl, hb2⟩; rw [HV2.out]; have HB2 : Hid (Below W0.heap.size W0 w2) := Lib.hid (Below.then_ HB1.out hb2); clear f0 f1 e0 e1 e2 e3 hb2)))
  have D2 := H2.out.stay HB2.out
  have D3 := H3.out.stay HB2.out
  have hz2 : W0.heap.size ≤ w2.heap.size := HB2.out.size
  go_cut [6] (fun s6 wx => Held w2 wx (a * d + c * b) s6)
  case first =>
    go_region_held3 (fun w' => w'.cell? ⟨w.heap.size, 0, none⟩ = some (.int .i64 a) ∧ w'.cell? ⟨w.heap.size, 1, none⟩ = some (.int .i64 b) ∧ w'.cell? ⟨w.heap.size + 1, 0, none⟩ = some (.int .i64 c) ∧ w'.cell? ⟨w.heap.size + 1, 1, none⟩ = some (.int .i64 d)) (first | assumption | exact s4 D2.drew D3.drew | exact s4 (D2.drew.alloc _) (D3.drew.alloc _) | exact s4 (D2.alloc _).drew (D3.alloc _).drew | exact s4 (Y2.alloc _) (Y3.alloc _) | exact s4 (Z2.alloc _) (Z3.alloc _) | exact s4 (C2.alloc _) (C3.alloc _) | exact s4 ((C2.far (by omega)).far (by omega)) ((C3.far (by omega)).far (by omega)) | fail)
    (first
      | (go_at_call 42; ((with_reducible refine (cross_any c d a b _ c0 c1 b2 b1).mono ?_); rintro e wz ⟨nb, vb, Nb, rfl, hs, hv, hl, hb⟩; have hyz : Below wy.heap.size wy wz := (by first | exact hb | exact below_new hb); have HZ : Hid (Below w2.heap.size w2 wz) := Lib.hid (Below.then_ HY.out hyz); have zz : w2.heap.size ≤ wz.heap.size := HZ.out.size; have Z2 := D2.stay HZ.out; have Z3 := D3.stay HZ.out; have SZ := s4 Z2 Z3; (first | (have T6 := Lib.hid (two_new hb)) | (have T6 := Lib.hid (two_new (below_drew hb))) | (have T6 := Lib.hid (T6.out.stay hb)) | skip); have GB := Lib.hid hs; have FB := Lib.hid hv; have lb : (digs Nb).length ≤ 18 := hl; have FA := Lib.hid (FA.out.later hyz); clear hyz hs hv hl hb))
      | (go_at_call 42; ((with_reducible refine (cross_any a b c d _ a0 a1 d2 d1).mono ?_); rintro e wz ⟨na, va, Na, rfl, hs, hv, hl, hb⟩; have hyz : Below wy.heap.size wy wz := (by first | exact hb | exact below_new hb); have HZ : Hid (Below w2.heap.size w2 wz) := Lib.hid (Below.then_ HY.out hyz); have zz : w2.heap.size ≤ wz.heap.size := HZ.out.size; have Z2 := D2.stay HZ.out; have Z3 := D3.stay HZ.out; have SZ := s4 Z2 Z3; (first | (have T6 := Lib.hid (two_new hb)) | (have T6 := Lib.hid (two_new (below_drew hb))) | (have T6 := Lib.hid (T6.out.stay hb)) | skip); have GA := Lib.hid hs; have FA := Lib.hid hv; have la : (digs Na).length ≤ 18 := hl; have FB := Lib.hid (FB.out.later hyz); clear hyz hs hv hl hb))
      | (go_at_call 42; ((with_reducible refine (cross_any a b c d _ a0 a1 d2 d1).mono ?_); rintro e wy ⟨na, va, Na, rfl, hs, hv, hl, hb⟩; have HY : Hid (Below w2.heap.size w2 wy) := Lib.hid ((by first | exact below_drew hb | exact below_drew (below_new hb) | exact below_new (below_drew hb))); have zy : w2.heap.size ≤ wy.heap.size := HY.out.size; have Y2 := D2.stay HY.out; have Y3 := D3.stay HY.out; have SY := s4 Y2 Y3; (first | (have T6 := Lib.hid (two_new hb)) | (have T6 := Lib.hid (two_new (below_drew hb))) | (have T6 := Lib.hid (T6.out.stay hb)) | skip); have GA := Lib.hid hs; have FA := Lib.hid hv; have la : (digs Na).length ≤ 18 := hl; clear hs hv hl hb))
      | (go_at_call 42; ((with_reducible refine (cross_any c d a b _ c0 c1 b2 b1).mono ?_); rintro e wy ⟨nb, vb, Nb, rfl, hs, hv, hl, hb⟩; have HY : Hid (Below w2.heap.size w2 wy) := Lib.hid ((by first | exact below_drew hb | exact below_drew (below_new hb) | exact below_new (below_drew hb))); have zy : w2.heap.size ≤ wy.heap.size := HY.out.size; have Y2 := D2.stay HY.out; have Y3 := D3.stay HY.out; have SY := s4 Y2 Y3; (first | (have T6 := Lib.hid (two_new hb)) | (have T6 := Lib.hid (two_new (below_drew hb))) | (have T6 := Lib.hid (T6.out.stay hb)) | skip); have GB := Lib.hid hs; have FB := Lib.hid hv; have lb : (digs Nb).length ≤ 18 := hl; clear hs hv hl hb))
      | (go_at_call 41; ((first | (with_reducible refine (sum_any na nb va vb Na Nb wz.heap.size wz FA.out FB.out la lb (Nat.le_refl _)).mono ?_) | (with_reducible refine (sum_any na nb va vb Na Nb wz.heap.size (wz.alloc _) (FA.out.below ((Below.refl _ _).alloc (Nat.le_refl _) _) (Nat.le_refl _)) (FB.out.below ((Below.refl _ _).alloc (Nat.le_refl _) _) (Nat.le_refl _)) la lb (by simp)).mono ?_)); rintro e wc ⟨ns, vs, Ns, rfl, hs, hv, hl, hb⟩; obtain ⟨A1, m1, k1, rfl⟩ := hv.is; have HC : Hid (Below w2.heap.size w2 wc) := Lib.hid (Below.then_ HZ.out (by first | exact hb | exact below_new hb)); have zc : w2.heap.size ≤ wc.heap.size := HC.out.size; have C2 := D2.stay HC.out; have C3 := D3.stay HC.out; have SC := s4 C2 C3; (first | (have T6 := Lib.hid (two_new hb)) | (have T6 := Lib.hid (two_new (below_drew hb))) | (have T6 := Lib.hid (T6.out.stay hb)) | skip); have GS := Lib.hid hs; have FS := Lib.hid hv; have GL := Lib.hid hl; clear hs hv hl hb; (try (obtain ⟨_, q0, q1, q2, q3⟩ := T6.out)))))
    all_goals
      go_wp2_with fail
      go_meet
      have GT : sg ns Ns = a * d + c * b := (by rw [GS.out, GA.out, GB.out])
      first
        | exact held_alloc GT FS.out GL.out HC.out
        | exact held_set T6.out (by omega) GT FS.out GL.out HC.out
  case rest =>
    obtain ⟨g, neg, v3, N, rfl, hg, D6, hsg, hbg, hln, hbw⟩ := hcut
    have HR0 := Lib.hid (add_res HV1.out HV2.out hsg)
    have FN := Lib.hid hbg
    have LN := hln
    have HBC : Hid (Below W0.heap.size W0 wc) := Lib.hid (Below.then_ HB2.out hbw)
    clear hsg hbg hln D2 D3 hbw
    have D2 := H2.out.stay HBC.out
    have D3 := H3.out.stay HBC.out
    have D4 := H4.out.stay HBC.out
    have lb : (digs b.natAbs).length ≤ 9 := Nat.le_trans (digs_i64 (by omega)) (by omega)
    have ld : (digs d.natAbs).length ≤ 9 := Nat.le_trans (digs_i64 (by omega)) (by omega)
    have LD : (digs (b.natAbs * d.natAbs)).length ≤ 19 := Nat.le_trans (digs_mul _ _) (by omega)
    have DP : 0 < b.natAbs * d.natAbs := Nat.mul_pos (by omega) (by omega)
    have lb : (digs b.natAbs).length ≤ 20 := Nat.le_trans lb (by omega)
    have ld : (digs d.natAbs).length ≤ 20 := Nat.le_trans ld (by omega)
    go_wp2
    go_region_held3 (fun w' => w'.cell? ⟨w.heap.size, 0, none⟩ = some (.int .i64 a) ∧ w'.cell? ⟨w.heap.size, 1, none⟩ = some (.int .i64 b) ∧ w'.cell? ⟨w.heap.size + 1, 0, none⟩ = some (.int .i64 c) ∧ w'.cell? ⟨w.heap.size + 1, 1, none⟩ = some (.int .i64 d) ∧ w'.cell? ⟨g, 0, none⟩ = some (.bool neg) ∧ w'.cell? ⟨g, 1, none⟩ = some v3) (first | assumption | exact s6 D2.drew D3.drew D6.drew | exact s6 ((Q2.far (by omega)).far (by omega)) ((Q3.far (by omega)).far (by omega)) ((Q6.far (by omega)).far (by omega)) | fail)
    (first
      | (go_at_call 38; ((with_reducible refine (size_any d wy (by omega) d1).mono ?_); rintro e wz ⟨vd, rfl, hv, hb⟩; have HZ : Hid (Below wc.heap.size wc wz) := Lib.hid (Below.then_ HY.out hb); have K := s6 (D2.stay HZ.out) (D3.stay HZ.out) (D6.stay HZ.out); have FD := Lib.hid hv; have FB := Lib.hid (FB.out.later hb); clear hv hb))
      | (go_at_call 38; ((with_reducible refine (size_any b wy (by omega) b1).mono ?_); rintro e wz ⟨vb, rfl, hv, hb⟩; have HZ : Hid (Below wc.heap.size wc wz) := Lib.hid (Below.then_ HY.out hb); have K := s6 (D2.stay HZ.out) (D3.stay HZ.out) (D6.stay HZ.out); have FB := Lib.hid hv; have FD := Lib.hid (FD.out.later hb); clear hv hb))
      | (go_at_call 38; ((with_reducible refine (size_any b wc.drew (by omega) b1).mono ?_); rintro e wy ⟨vb, rfl, hv, hb⟩; have HY : Hid (Below wc.heap.size wc wy) := Lib.hid (below_drew hb); have K := s6 (D2.stay HY.out) (D3.stay HY.out) (D6.stay HY.out); have FB := Lib.hid hv; clear hv hb))
      | (go_at_call 38; ((with_reducible refine (size_any d wc.drew (by omega) d1).mono ?_); rintro e wy ⟨vd, rfl, hv, hb⟩; have HY : Hid (Below wc.heap.size wc wy) := Lib.hid (below_drew hb); have K := s6 (D2.stay HY.out) (D3.stay HY.out) (D6.stay HY.out); have FD := Lib.hid hv; clear hv hb))
      | (go_at_call 43; ((with_reducible refine (times_any vb vd b.natAbs d.natAbs wz.heap.size wz FB.out FD.out lb ld (Nat.le_refl _)).mono ?_); rintro e wt ⟨vt, rfl, hv, hb⟩; have HT : Hid (Below wc.heap.size wc wt) := Lib.hid (Below.then_ HZ.out hb); have K := s6 (D2.stay HT.out) (D3.stay HT.out) (D6.stay HT.out); have FT := Lib.hid hv; have FS := Lib.hid (FN.out.later HT.out); clear hv hb))
      | (go_at_call 37; ((with_reducible refine (quotient_any neg v3 vt N (b.natAbs * d.natAbs) wt.heap.size wt FS.out FT.out LN LD DP (Nat.le_refl _)).mono ?_); rintro e wq hq; obtain ⟨x, y, k, hr, rfl, hb⟩ := tRes_open hq; have HR := Lib.hid hr; have HQ : Hid (Below wc.heap.size wc wq) := Lib.hid (Below.then_ HT.out hb); have K := s6 (D2.stay HQ.out) (D3.stay HQ.out) (D6.stay HQ.out); obtain ⟨_, q0, q1, q2, q3⟩ := D4.stay HQ.out; have Q2 := D2.stay HQ.out; have Q3 := D3.stay HQ.out; have Q6 := D6.stay HQ.out; clear hq hr hb)))
    all_goals
      go_wp2
      refine bodyPost_ret (v := .tuple #[.agg #[.int .i64 x, .int .i64 y], .int .i64 k]) (by simp [results, Tryd.results18, go_sem, q0, q1]) rfl ?_
      exact ⟨by rw [resV_mk (HR.out.symm.trans HR0.out)], (((HBW.out.trans (HBC.out.mono HBW.out.size)).trans (HQ.out.mono (Nat.le_trans HBW.out.size HBC.out.size))).setCell (by simp; omega) _).setCell (by simp; omega) _⟩
set_option maxRecDepth 100000 in
set_option maxHeartbeats 16000000 in
theorem addNo1 (a b c d : Int) (w : World) (a0 : -9223372036854775808 ≤ a) (a1 : a ≤ 9223372036854775807) (b0 : -9223372036854775808 ≤ b) (b1 : b ≤ 9223372036854775807)
     (h1 : validS a b = false) :
    Calls Tryd.prog 18 #[rv a b, rv c d] w (tRes w (addS a b c d)) := by
  obtain ⟨W0, hW0⟩ : ∃ W0, ((w.alloc (.cells #[.int .i64 a, .int .i64 b] 23)).alloc (.cells #[.int .i64 c, .int .i64 d] 23)).alloc (.cells #[.int .i64 0, .int .i64 0] 23) = W0 := ⟨_, rfl⟩
  have H2 : Hid (Two W0 w.heap.size (.int .i64 a) (.int .i64 b)) := Lib.hid (by rw [← hW0]; exact ((Two.new _ _ _ _).alloc _).alloc _)
  have H3 : Hid (Two W0 (w.heap.size + 1) (.int .i64 c) (.int .i64 d)) := Lib.hid (by rw [← hW0]; exact (Two.at_ (by simp) _ _ _).alloc _)
  have H4 : Hid (Two W0 (w.heap.size + 1 + 1) (.int .i64 0) (.int .i64 0)) := Lib.hid (by rw [← hW0]; exact Two.at_ (by simp) _ _ _)
  have HBW : Hid (Below w.heap.size w W0) := Lib.hid (by rw [← hW0]; exact (((Below.refl _ _).alloc (Nat.le_refl _) _).alloc (by simp) _).alloc (by simp; omega) _)
  have hz0 : w.heap.size + 1 + 1 < W0.heap.size := H4.out.lt
  have HW := Lib.hid hW0
  clear hW0
  have HS : Hid ((0, 0, 1) = addS a b c d) := Lib.hid (by unfold addS; rw [h1]; simp)
  have HV1 := Lib.hid h1
  clear h1
  have e0 := H2.out.c0
  have e1 := H2.out.c1
  go_enter Tryd.func18, Tryd.ntmps18
  go_wp2_with (first
    | (rw [HW.out]; (go_at_call 16; ((refine (validRef_any a b W0 a0 a1 b0 b1).mono ?_); rintro e w1 ⟨rfl, hb1⟩; rw [HV1.out]; have HB1 := Lib.hid hb1; have f0 := (H3.out.stay hb1).c0; have f1 := (H3.out.stay hb1).c1; obtain ⟨_, q0, q1, q2, q3⟩ := H4.out.stay HB1.out; clear hb1))))
  refine bodyPost_ret (v := .tuple #[.agg #[.int .i64 0, .int .i64 0], .int .i64 1]) (by simp [results, Tryd.results18, go_sem, q0, q1]) rfl ?_
  exact ⟨by rw [resV_mk HS.out], ((HBW.out.trans (HB1.out.mono HBW.out.size)).setCell (by simp; omega) _).setCell (by simp; omega) _⟩
set_option maxRecDepth 100000 in
set_option maxHeartbeats 16000000 in
theorem addNo2 (a b c d : Int) (w : World) (a0 : -9223372036854775808 ≤ a) (a1 : a ≤ 9223372036854775807) (b0 : -9223372036854775808 ≤ b) (b1 : b ≤ 9223372036854775807)
    (c0 : -9223372036854775808 ≤ c) (c1 : c ≤ 9223372036854775807) (d0 : -9223372036854775808 ≤ d) (d1 : d ≤ 9223372036854775807) (h1 : validS a b = true) (h2 : validS c d = false) :
    Calls Tryd.prog 18 #[rv a b, rv c d] w (tRes w (addS a b c d)) := by
  obtain ⟨W0, hW0⟩ : ∃ W0, ((w.alloc (.cells #[.int .i64 a, .int .i64 b] 23)).alloc (.cells #[.int .i64 c, .int .i64 d] 23)).alloc (.cells #[.int .i64 0, .int .i64 0] 23) = W0 := ⟨_, rfl⟩
  have H2 : Hid (Two W0 w.heap.size (.int .i64 a) (.int .i64 b)) := Lib.hid (by rw [← hW0]; exact ((Two.new _ _ _ _).alloc _).alloc _)
  have H3 : Hid (Two W0 (w.heap.size + 1) (.int .i64 c) (.int .i64 d)) := Lib.hid (by rw [← hW0]; exact (Two.at_ (by simp) _ _ _).alloc _)
  have H4 : Hid (Two W0 (w.heap.size + 1 + 1) (.int .i64 0) (.int .i64 0)) := Lib.hid (by rw [← hW0]; exact Two.at_ (by simp) _ _ _)
  have HBW : Hid (Below w.heap.size w W0) := Lib.hid (by rw [← hW0]; exact (((Below.refl _ _).alloc (Nat.le_refl _) _).alloc (by simp) _).alloc (by simp; omega) _)
  have hz0 : w.heap.size + 1 + 1 < W0.heap.size := H4.out.lt
  have HW := Lib.hid hW0
  clear hW0
  have HS : Hid ((0, 0, 1) = addS a b c d) := Lib.hid (by unfold addS; rw [h1, h2]; simp)
  have HV1 := Lib.hid h1
  have HV2 := Lib.hid h2
  clear h1 h2
  have e0 := H2.out.c0
  have e1 := H2.out.c1
  go_enter Tryd.func18, Tryd.ntmps18
  go_wp2_with (first
    | (rw [HW.out]; (go_at_call 16; ((refine (validRef_any a b W0 a0 a1 b0 b1).mono ?_); rintro e w1 ⟨rfl, hb1⟩; rw [HV1.out]; have HB1 := Lib.hid hb1; have f0 := (H3.out.stay hb1).c0; have f1 := (H3.out.stay hb1).c1; clear hb1)))
    | (go_at_call 16; ((refine (validRef_any c d w1 c0 c1 d0 d1).mono ?_); rintro e w2 ⟨rfl, hb2⟩; rw [HV2.out]; have HB2 : Hid (Below W0.heap.size W0 w2) := Lib.hid (Below.then_ HB1.out hb2); obtain ⟨_, q0, q1, q2, q3⟩ := H4.out.stay HB2.out; clear f0 f1 hb2)))
  refine bodyPost_ret (v := .tuple #[.agg #[.int .i64 0, .int .i64 0], .int .i64 1]) (by simp [results, Tryd.results18, go_sem, q0, q1]) rfl ?_
  exact ⟨by rw [resV_mk HS.out], ((HBW.out.trans (HB2.out.mono HBW.out.size)).setCell (by simp; omega) _).setCell (by simp; omega) _⟩
theorem addRef_any (a b c d : Int) (w : World) (a0 : -9223372036854775808 ≤ a) (a1 : a ≤ 9223372036854775807) (b0 : -9223372036854775808 ≤ b) (b1 : b ≤ 9223372036854775807)
    (c0 : -9223372036854775808 ≤ c) (c1 : c ≤ 9223372036854775807) (d0 : -9223372036854775808 ≤ d) (d1 : d ≤ 9223372036854775807) :
    Calls Tryd.prog 18 #[rv a b, rv c d] w (tRes w (addS a b c d)) := by
  cases h1 : validS a b
  · exact addNo1 a b c d w a0 a1 b0 b1 h1
  · cases h2 : validS c d
    · exact addNo2 a b c d w a0 a1 b0 b1 c0 c1 d0 d1 h1 h2
    · exact addYes a b c d w a0 a1 b0 b1 c0 c1 d0 d1 h1 h2
end Go.Proofs.YtjighmmfaedgbaaDoor.RatW
