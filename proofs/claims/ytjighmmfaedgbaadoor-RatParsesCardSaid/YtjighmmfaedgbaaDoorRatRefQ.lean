/-
  What the reference's 'quotient', 'Make' and 'Valid' return.
-/
import Derived.Test.YtjighmmfaedgbaaDoorRatCommon
namespace Go.Proofs.YtjighmmfaedgbaaDoor.RatW
open Go Go.RowKit Go.Proofs.YtjighmmfaedgbaaDoor.RatM

theorem int63_no (v : Value) (a : Nat) (neg : Bool) (B : Nat) (w : World) (h : Bg w B v a) (g1 : (digs a).length ≤ 100) (hB : B ≤ w.heap.size) (hf : ¬ a ≤ lim neg) :
    Calls Tryd.prog 58 #[v, .bool neg] w (no63 w) := by
  cases neg
  · exact int63NoP v a B w h g1 hB hf
  · exact int63NoN v a B w h g1 hB hf
theorem int63_yes (v : Value) (a : Nat) (neg : Bool) (B : Nat) (w : World) (h : Bg w B v a) (g1 : (digs a).length ≤ 100) (hB : B ≤ w.heap.size) (hf : a ≤ lim neg) :
    Calls Tryd.prog 58 #[v, .bool neg] w (yes63 a neg w) := by
  cases neg
  · exact int63YesP v a B w h g1 hB hf
  · exact int63YesN v a B w h g1 hB hf
theorem _root_.Go.RowKit.Below.then_ {a b c : World} (h1 : Below a.heap.size a b) (h2 : Below b.heap.size b c) : Below a.heap.size a c := h1.trans (h2.mono h1.size)
theorem cells2 {w w5 : World} {x y : Value} {t : TypeId} (h : Below (w.alloc (.cells #[x, y] t)).heap.size (w.alloc (.cells #[x, y] t)) w5) :
    w5.cell? ⟨w.heap.size, 0, none⟩ = some x ∧ w5.cell? ⟨w.heap.size, 1, none⟩ = some y ∧ w5.frozen? ⟨w.heap.size, 0, none⟩ = false ∧ w5.frozen? ⟨w.heap.size, 1, none⟩ = false := by
  have hlt : w.heap.size < (w.alloc (.cells #[x, y] t)).heap.size := by simp
  have hb : (w.alloc (.cells #[x, y] t)).heap[w.heap.size]? = some (.cells #[x, y] t) := Go.Deep.blk_alloc_new _ _
  refine ⟨?_, ?_, ?_, ?_⟩
  · rw [h.cell hlt]; exact alloc_cell _ _ _ _ _ rfl
  · rw [h.cell hlt]; exact alloc_cell _ _ _ _ _ rfl
  · rw [h.frozen hlt]; simp only [World.frozen?, hb]; rfl
  · rw [h.frozen hlt]; simp only [World.frozen?, hb]; rfl
/-- A rational number and an error, as they are returned. -/
def resV (r : Int × Int × Int) : Value := .tuple #[.agg #[.int .i64 r.1, .int .i64 r.2.1], .int .i64 r.2.2]
def tRes (w : World) (r : Int × Int × Int) (e : Ending) (w' : World) : Prop := e = .returned (resV r) ∧ Below w.heap.size w w'
theorem tRes_open {w w' : World} {r : Int × Int × Int} {e : Ending} (h : tRes w r e w') : ∃ n d k, r = (n, d, k) ∧ e = .returned (.tuple #[.agg #[.int .i64 n, .int .i64 d], .int .i64 k]) ∧ Below w.heap.size w w' := by
  obtain ⟨n, d, k⟩ := r
  exact ⟨n, d, k, rfl, h.1, h.2⟩
theorem resV_mk {r : Int × Int × Int} {n d k : Int} (h : (n, d, k) = r) : Value.tuple #[.agg #[.int .i64 n, .int .i64 d], .int .i64 k] = resV r := by subst h; rfl
theorem fit_yes {neg : Bool} {p q : Nat} (hp : p ≤ lim neg) (hq : q ≤ lim false) : (sg neg p, sg false q, (0 : Int)) = fit neg p q := by
  have : fitB neg p q = true := by
    unfold fitB
    rw [decide_eq_true_eq]
    exact ⟨hp, hq⟩
  unfold fit
  rw [if_pos this]; rfl
theorem fit_no {neg : Bool} {p q : Nat} (h : ¬ (p ≤ lim neg ∧ q ≤ lim false)) : ((0 : Int), (0 : Int), (3 : Int)) = fit neg p q := by
  have : fitB neg p q = false := by
    unfold fitB
    rw [decide_eq_false_iff_not]
    exact h
  unfold fit
  rw [this]; rfl
set_option maxRecDepth 100000 in
set_option maxHeartbeats 8000000 in
theorem quotient_any (neg : Bool) (u v : Value) (a b : Nat) (B : Nat) (w : World) (h : Bg w B u a) (h' : Bg w B v b) (g1 : (digs a).length ≤ 19) (g2 : (digs b).length ≤ 19) (hb0 : 0 < b) (hB : B ≤ w.heap.size) :
    Calls Tryd.prog 37 #[.bool neg, u, v] w (tRes w (quo neg a b)) := by
  have HA := Lib.hid (h.below ((Below.refl w.heap.size w).alloc (Nat.le_refl _) (.cells #[.int .i64 0, .int .i64 0] 23)) hB)
  have HB := Lib.hid (h'.below ((Below.refl w.heap.size w).alloc (Nat.le_refl _) (.cells #[.int .i64 0, .int .i64 0] 23)) hB)
  have HB0 := Lib.hid hB
  clear h h' hB
  obtain ⟨g, hg⟩ : ∃ g, a.gcd b = g := ⟨_, rfl⟩
  have hgp : 0 < g := by rw [← hg]; exact gcd_pos hb0
  have hgl : (digs g).length ≤ 19 := Nat.le_trans (digs_mono (by rw [← hg]; exact Nat.le_of_dvd hb0 (Nat.gcd_dvd_right _ _))) g2
  obtain ⟨p, hp⟩ : ∃ p, a / g = p := ⟨_, rfl⟩
  obtain ⟨q, hq⟩ : ∃ q, b / g = q := ⟨_, rfl⟩
  have hpl : (digs p).length ≤ 100 := Nat.le_trans (digs_mono (by rw [← hp]; exact Nat.div_le_self _ _)) (by omega)
  have hql : (digs q).length ≤ 100 := Nat.le_trans (digs_mono (by rw [← hq]; exact Nat.div_le_self _ _)) (by omega)
  have HG := Lib.hid hg
  have HP := Lib.hid hp
  have HQ := Lib.hid hq
  have HR : Hid (quo neg a b = fit neg p q) := Lib.hid (by unfold quo; rw [hg, hp, hq])
  clear hg hp hq hb0
  by_cases k1 : p ≤ lim neg <;> by_cases k2 : q ≤ lim false
  all_goals
    have K1 := Lib.hid k1
    have K2 := Lib.hid k2
    clear k1 k2
    go_enter Tryd.func37, Tryd.ntmps37
    have hsz : w.heap.size ≤ (w.alloc (.cells #[.int .i64 0, .int .i64 0] 23)).heap.size := by simp
    go_wp2_with (first
      | (go_at_call 56; refine (common_any _ _ a b w.heap.size _ (HA.out.more HB0.out) (HB.out.more HB0.out) g1 g2 hsz).mono ?_; rintro e w1 ⟨v1, rfl, hv1, hb1⟩; rw [HG.out] at hv1; have HV1 := Lib.hid hv1; have HB1 := Lib.hid hb1; have HA1 := Lib.hid ((HA.out.below hb1 (Nat.le_trans HB0.out hsz)).more (Nat.le_trans HB0.out (Nat.le_trans hsz hb1.size))); have HBB1 := Lib.hid ((HB.out.below hb1 (Nat.le_trans HB0.out hsz)).more (Nat.le_trans HB0.out (Nat.le_trans hsz hb1.size))); clear hv1 hb1)
      | (go_at_call 57; ((with_reducible refine (divide_any _ _ a g w1.heap.size w1 HA1.out HV1.out (by omega) hgl hgp (Nat.le_refl _)).mono ?_); rintro e w2 ⟨u2, v2, rfl, hu2, hv2, hb2⟩; rw [HP.out] at hu2; have HU2 := Lib.hid hu2; have HB2 := Lib.hid hb2; have HG2 := Lib.hid ((HV1.out.below hb2 (Nat.le_refl _)).more hb2.size); have HBB2 := Lib.hid ((HBB1.out.below hb2 (Nat.le_refl _)).more hb2.size); clear hu2 hv2 hb2))
      | (go_at_call 57; ((with_reducible refine (divide_any _ _ b g w2.heap.size w2 HBB2.out HG2.out (by omega) hgl hgp (Nat.le_refl _)).mono ?_); rintro e w3 ⟨u3, v3, rfl, hu3, hv3, hb3⟩; rw [HQ.out] at hu3; have HU3 := Lib.hid hu3; have HB3 := Lib.hid hb3; have HP3 := Lib.hid ((HU2.out.below hb3 (Nat.le_refl _)).more hb3.size); clear hu3 hv3 hb3))
      | (go_at_call 58; ((with_reducible refine (int63_no _ p neg w3.heap.size w3 HP3.out hpl (Nat.le_refl _) K1.out).mono ?_); rintro e w4 ⟨rfl, hb4⟩; have HB4 := Lib.hid hb4; have HQ4 := Lib.hid ((HU3.out.below hb4 (Nat.le_refl _)).more hb4.size); clear hb4))
      | (go_at_call 58; ((with_reducible refine (int63_yes _ p neg w3.heap.size w3 HP3.out hpl (Nat.le_refl _) K1.out).mono ?_); rintro e w4 ⟨rfl, hb4⟩; have HB4 := Lib.hid hb4; have HQ4 := Lib.hid ((HU3.out.below hb4 (Nat.le_refl _)).more hb4.size); clear hb4))
      | (go_at_call 58; ((with_reducible refine (int63_no _ q false w4.heap.size w4 HQ4.out hql (Nat.le_refl _) K2.out).mono ?_); rintro e w5 ⟨rfl, hb5⟩; have HT := Lib.hid ((((HB1.out.then_ HB2.out).then_ HB3.out).then_ HB4.out).then_ hb5); obtain ⟨c0, c1, f0, f1⟩ := cells2 HT.out; clear hb5))
      | (go_at_call 58; ((with_reducible refine (int63_yes _ q false w4.heap.size w4 HQ4.out hql (Nat.le_refl _) K2.out).mono ?_); rintro e w5 ⟨rfl, hb5⟩; have HT := Lib.hid ((((HB1.out.then_ HB2.out).then_ HB3.out).then_ HB4.out).then_ hb5); obtain ⟨c0, c1, f0, f1⟩ := cells2 HT.out; clear hb5)))
    refine bodyPost_ret (v := resV (fit neg p q)) ?_ rfl ?_
    · first | rw [← resV_mk (fit_yes K1.out K2.out)] | rw [← resV_mk (fit_no (fun h => K1.out h.1))] | rw [← resV_mk (fit_no (fun h => K2.out h.2))]
      simp [results, Tryd.results37, go_sem, c0, c1]
    · refine ⟨by rw [HR.out], ?_⟩
      have HW := ((Below.refl w.heap.size w).alloc (Nat.le_refl _) (.cells #[.int .i64 0, .int .i64 0] 23)).trans (HT.out.mono hsz)
      exact (HW.setCell (Nat.le_refl _) _).setCell (Nat.le_refl _) _
theorem digs19 {x : Int} (h0 : -9223372036854775808 ≤ x) (h1 : x ≤ 9223372036854775807) : (digs x.natAbs).length ≤ 19 := Nat.le_trans (digs_i64 (by omega)) (by omega)
set_option maxRecDepth 100000 in
set_option maxHeartbeats 4000000 in
theorem makeRef_any (n d : Int) (w : World) (n0 : -9223372036854775808 ≤ n) (n1 : n ≤ 9223372036854775807) (d0 : -9223372036854775808 ≤ d) (d1 : d ≤ 9223372036854775807) :
    Calls Tryd.prog 13 #[.int .i64 n, .int .i64 d] w (tRes w (makeS n d)) := by
  by_cases hd : d = 0
  · subst hd
    go_enter Tryd.func13, Tryd.ntmps13
    go_wp2
    refine bodyPost_ret (v := .tuple #[.agg #[.int .i64 0, .int .i64 0], .int .i64 4]) (by simp [results, Tryd.results13, go_sem]) rfl ?_
    exact ⟨by rw [resV_mk (show (0, 0, 4) = makeS n 0 from rfl)], (Below.refl _ _).alloc (Nat.le_refl _) _⟩
  · have HM : Hid (makeS n d = quo (decide (n < 0) != decide (d < 0)) n.natAbs d.natAbs) := Lib.hid (by unfold makeS; rw [if_neg hd])
    have l1 := digs19 n0 n1
    have l2 := digs19 d0 d1
    have dp : 0 < d.natAbs := by omega
    have hd' : (d == 0) = false := by simpa using hd
    clear hd
    go_enter Tryd.func13, Tryd.ntmps13
    have hsz : w.heap.size ≤ (w.alloc (.cells #[.int .i64 0, .int .i64 0] 23)).heap.size := by simp
    go_wp2_with (first
      | (go_at_call 38; ((with_reducible refine (size_any n (w.alloc (.cells #[.int .i64 0, .int .i64 0] 23)) n0 n1).mono ?_); rintro e w1 ⟨v1, rfl, hv1, hb1⟩; have HV1 := Lib.hid hv1; have HB1 := Lib.hid hb1; clear hv1 hb1))
      | (go_at_call 38; ((with_reducible refine (size_any d w1 d0 d1).mono ?_); rintro e w2 ⟨v2, rfl, hv2, hb2⟩; have HV2 := Lib.hid hv2; have HB2 := Lib.hid hb2; clear hv2 hb2))
      | (go_at_call 37; refine (quotient_any _ v1 v2 n.natAbs d.natAbs w2.heap.size w2 ((HV1.out.below HB2.out (Nat.le_refl _)).more HB2.out.size) HV2.out l1 l2 dp (Nat.le_refl _)).mono ?_; rintro e w3 h3; obtain ⟨x, y, k, hr, rfl, hb3⟩ := tRes_open h3; have HR := Lib.hid hr; clear h3 hr; have HT := Lib.hid ((HB1.out.then_ HB2.out).then_ hb3); obtain ⟨c0, c1, f0, f1⟩ := cells2 HT.out; clear hb3))
    refine bodyPost_ret (v := .tuple #[.agg #[.int .i64 x, .int .i64 y], .int .i64 k]) (by simp [results, Tryd.results13, go_sem, c0, c1]) rfl ?_
    have HW := ((Below.refl w.heap.size w).alloc (Nat.le_refl _) (.cells #[.int .i64 0, .int .i64 0] 23)).trans (HT.out.mono hsz)
    exact ⟨by rw [resV_mk (HR.out.symm.trans HM.out.symm)], (HW.setCell (Nat.le_refl _) _).setCell (Nat.le_refl _) _⟩
end Go.Proofs.YtjighmmfaedgbaaDoor.RatW
