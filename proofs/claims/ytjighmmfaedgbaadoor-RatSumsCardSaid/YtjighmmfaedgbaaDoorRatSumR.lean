/-
  What the reference's 'Sum' of a list of rational numbers returns.
-/
import Derived.Test.YtjighmmfaedgbaaDoorRatSumL
import Derived.Test.YtjighmmfaedgbaaDoorRatRefA
namespace Go.Proofs.YtjighmmfaedgbaaDoor.RatW
open Go Go.RowKit Go.Proofs.YtjighmmfaedgbaaDoor.RatM

theorem keepSum {wr w' : World} {g b o : Nat} {x y p q : Value} (T : Two wr g x y) (hb : b < wr.heap.size) (ca : wr.cell? ⟨b, o, none⟩ = some p) (cb : wr.cell? ⟨b, o + 1, none⟩ = some q) (X : Below wr.heap.size wr w') :
    w'.cell? ⟨g, 0, none⟩ = some x ∧ w'.cell? ⟨g, 1, none⟩ = some y ∧ w'.cell? ⟨b, o, none⟩ = some p ∧ w'.cell? ⟨b, o + 1, none⟩ = some q :=
  ⟨(T.stay X).c0, (T.stay X).c1, by rw [X.cell hb]; exact ca, by rw [X.cell hb]; exact cb⟩
set_option maxRecDepth 100000 in
set_option maxHeartbeats 8000000 in
theorem sumRef (n : Nat) (N D : Nat → Int) (v : Value) (w : World) (h : RatsAt w v n N D) (hn : n ≤ 30) :
    Calls Tryd.prog 28 #[v] w (tRes w (sumF N D n 0 0 1)) := by
  obtain ⟨p, cap, rfl, hcap, hi, hx⟩ := h
  have HX := Lib.hid hx
  have HI := Lib.hid hi
  clear hx hi
  go_enter Tryd.func28, Tryd.ntmps28
  go_wp2
  go_loopw [5] (fun i wr => ∃ (k : Nat) (x y : Int), k ≤ n ∧ i = .int .i64 k ∧ (i64 x ∧ i64 y) ∧ sumF N D (n - k) k x y = sumF N D n 0 0 1 ∧ Two wr (w.heap.size + 1) (.int .i64 x) (.int .i64 y) ∧ Two wr w.heap.size (.int .i64 0) (.int .i64 0) ∧ Below w.heap.size w wr) (fun i _ => n - (intOf i).toNat)
  case atStart => exact ⟨0, 0, 1, Nat.zero_le _, rfl, by unfold i64; omega, rfl, Two.at_ (by simp) _ _ _, (Two.new _ _ _ _).alloc _, ((Below.refl _ _).alloc (Nat.le_refl _) _).alloc (by simp) _⟩
  case round =>
    obtain ⟨k, x, y, hk, rfl, hxy, hs, h4, h2, hb⟩ := hrel
    have HS := Lib.hid hs
    have HB := Lib.hid hb
    have T4 := Lib.hid h4
    have T2 := Lib.hid h2
    clear hs hb h4 h2
    have c0 := T4.out.c0
    have c1 := T4.out.c1
    have z2 := T4.out.lt
    by_cases hlt : k < n
    · obtain ⟨b, off, hp, hbs, hc⟩ := HX.out (by omega)
      subst hp
      have hcw : b < w.heap.size := hbs
      have ca : wr.cell? ⟨b, off + k * 2, none⟩ = some (.int .i64 (N k)) := by rw [HB.out.cell hbs]; exact (hc k hlt).1
      have cb : wr.cell? ⟨b, off + k * 2 + 1, none⟩ = some (.int .i64 (D k)) := by rw [HB.out.cell hbs]; exact (hc k hlt).2
      have hi := HI.out k hlt
      obtain ⟨u, v, e, ha⟩ : ∃ u v e, addS x y (N k) (D k) = (u, v, e) := ⟨_, _, _, rfl⟩
      have AD : ∀ w, Calls Tryd.prog 18 #[rv x y, rv (N k) (D k)] w fun e' w' => e' = .returned (.tuple #[.agg #[.int .i64 u, .int .i64 v], .int .i64 e]) ∧ Below w.heap.size w w' := fun w => by
        have q := addRef_any x y (N k) (D k) w hxy.1.1 hxy.1.2 hxy.2.1 hxy.2.2 hi.1.1 hi.1.2 hi.2.1 hi.2.2
        rw [ha] at q
        exact q
      have AD := Lib.hid AD
      have hu := add_i64 ha
      by_cases he : e = 0
      · subst he
        have HN := Lib.hid ((sumF_step hlt ha).symm.trans HS.out)
        clear ha hc
        generalize N k = nk at *
        generalize D k = dk at *
        have hbr : b < wr.heap.size := Nat.lt_of_lt_of_le hbs HB.out.size
        have KS := Lib.hid (fun (w' : World) (X : Below wr.heap.size wr w') => keepSum T4.out hbr ca cb X)
        go_wp2
        go_region_held3 (fun w' => w'.cell? ⟨w.heap.size + 1, 0, none⟩ = some (.int .i64 x) ∧ w'.cell? ⟨w.heap.size + 1, 1, none⟩ = some (.int .i64 y) ∧ w'.cell? ⟨b, off + k * 2, none⟩ = some (.int .i64 nk) ∧ w'.cell? ⟨b, off + k * 2 + 1, none⟩ = some (.int .i64 dk))
          (first
            | assumption
            | exact KS.out _ (Below.refl _ _).drew
            | exact KS.out _ ((Below.refl _ _).alloc (Nat.le_refl _) _).drew
            | exact KS.out _ (HQ.out.alloc HQ.out.size _)
            | exact KS.out _ ((HQ.out.setCell (by simp) _).setCell (by simp) _)
            | fail)
          (first | (go_at_call 18; ((with_reducible refine (AD.out _).mono ?_); rintro e w1 ⟨rfl, hq⟩; have HQ : Hid (Below wr.heap.size wr w1) := Lib.hid (by first | exact below_drew hq | exact below_new (below_drew hq) | exact below_drew (below_new hq)); have H4 := Lib.hid (T4.out.stay HQ.out); have H2 := Lib.hid (T2.out.stay HQ.out); have HB1 := Lib.hid (Below.then_ HB.out HQ.out); have K := KS.out _ HQ.out; (first | (have T6 := Lib.hid (two_new hq)) | (have T6 := Lib.hid (two_new (below_drew hq))) | skip); (try (obtain ⟨_, q0, q1, q2, q3⟩ := T6.out)); have f0 := H4.out.f0; have f1 := H4.out.f1; have z2 := H4.out.lt; have z3 : wr.heap.size ≤ w1.heap.size := HQ.out.size; have z4 := T4.out.lt; have z5 := H2.out.lt; have z6 := T2.out.lt; have n1 : ¬ w.heap.size = wr.heap.size := (by omega); have n2 : ¬ wr.heap.size = w.heap.size := (by omega); have n3 : ¬ w.heap.size + 1 = wr.heap.size := (by omega); have n4 : ¬ wr.heap.size = w.heap.size + 1 := (by omega); clear hq)))
        clear ca cb
        all_goals
          go_wp2
          go_roundw
          case rel =>
            first
              | exact ⟨k + 1, u, v, by omega, by go_num, hu, HN.out, (H4.out.set2 _ _).alloc _, ((H2.out.far (by omega)).far (by omega)).alloc _, ((HB1.out.setCell (by simp) _).setCell (by simp) _).alloc ((HB1.out.setCell (by simp) _).setCell (by simp) _).size _⟩
              | exact ⟨k + 1, u, v, by omega, by go_num, hu, HN.out, ((H4.out.far (by omega)).far (by omega)).set2 _ _, ((((H2.out.far (by omega)).far (by omega)).far (by omega)).far (by omega)), (((HB1.out.setCell (by simp; omega) _).setCell (by simp; omega) _).setCell (by simp) _).setCell (by simp) _⟩
          case measure => simp [intOf]; omega
      · have HN := Lib.hid ((sumF_stop hlt ha he).symm.trans HS.out)
        clear ha hc
        generalize N k = nk at *
        generalize D k = dk at *
        have hbr : b < wr.heap.size := Nat.lt_of_lt_of_le hbs HB.out.size
        have KS := Lib.hid (fun (w' : World) (X : Below wr.heap.size wr w') => keepSum T4.out hbr ca cb X)
        go_wp2
        go_region_held3 (fun w' => w'.cell? ⟨w.heap.size + 1, 0, none⟩ = some (.int .i64 x) ∧ w'.cell? ⟨w.heap.size + 1, 1, none⟩ = some (.int .i64 y) ∧ w'.cell? ⟨b, off + k * 2, none⟩ = some (.int .i64 nk) ∧ w'.cell? ⟨b, off + k * 2 + 1, none⟩ = some (.int .i64 dk))
          (first
            | assumption
            | exact KS.out _ (Below.refl _ _).drew
            | exact KS.out _ ((Below.refl _ _).alloc (Nat.le_refl _) _).drew
            | exact KS.out _ (HQ.out.alloc HQ.out.size _)
            | exact KS.out _ ((HQ.out.setCell (by simp) _).setCell (by simp) _)
            | fail)
          (first | (go_at_call 18; ((with_reducible refine (AD.out _).mono ?_); rintro e w1 ⟨rfl, hq⟩; have HQ : Hid (Below wr.heap.size wr w1) := Lib.hid (by first | exact below_drew hq | exact below_new (below_drew hq) | exact below_drew (below_new hq)); have H4 := Lib.hid (T4.out.stay HQ.out); have H2 := Lib.hid (T2.out.stay HQ.out); have HB1 := Lib.hid (Below.then_ HB.out HQ.out); have K := KS.out _ HQ.out; (first | (have T6 := Lib.hid (two_new hq)) | (have T6 := Lib.hid (two_new (below_drew hq))) | skip); (try (obtain ⟨_, q0, q1, q2, q3⟩ := T6.out)); have f0 := H2.out.f0; have f1 := H2.out.f1; have d0 := H2.out.c0; have d1 := H2.out.c1; have z2 := H4.out.lt; have z3 : wr.heap.size ≤ w1.heap.size := HQ.out.size; have z4 := T4.out.lt; have z5 := H2.out.lt; have z6 := T2.out.lt; have n1 : ¬ w.heap.size = wr.heap.size := (by omega); have n2 : ¬ wr.heap.size = w.heap.size := (by omega); have n3 : ¬ w.heap.size + 1 = wr.heap.size := (by omega); have n4 : ¬ wr.heap.size = w.heap.size + 1 := (by omega); clear hq)))
        clear ca cb
        all_goals
          go_wp2
          first
            | (have TF := (H2.out.set2 (.int .i64 0) (.int .i64 0)).alloc (.cells #[.int .i64 u, .int .i64 v] 23)
               have o0 := TF.c0
               have o1 := TF.c1
               refine bodyPost_ret (v := .tuple #[.agg #[.int .i64 0, .int .i64 0], .int .i64 e]) (by simp [results, Tryd.results28, go_sem, o0, o1]) rfl ?_
               exact ⟨by rw [resV_mk HN.out], ((HB1.out.setCell (by simp) _).setCell (by simp) _).alloc ((HB1.out.setCell (by simp) _).setCell (by simp) _).size _⟩)
            | (have TF := (((H2.out.far (g' := wr.heap.size) (o := 0) (z := .int .i64 u) (by omega)).far (g' := wr.heap.size) (o := 1) (z := .int .i64 v) (by omega)).set2 (.int .i64 0) (.int .i64 0))
               have o0 := TF.c0
               have o1 := TF.c1
               refine bodyPost_ret (v := .tuple #[.agg #[.int .i64 0, .int .i64 0], .int .i64 e]) (by simp [results, Tryd.results28, go_sem, o0, o1]) rfl ?_
               exact ⟨by rw [resV_mk HN.out], (((HB1.out.setCell (by simp; omega) _).setCell (by simp; omega) _).setCell (by simp) _).setCell (by simp) _⟩)
    · obtain rfl : n = k := by omega
      have HN := Lib.hid ((sumF_end N D n x y).symm.trans HS.out)
      have d0 := T2.out.c0
      have d1 := T2.out.c1
      have g0 := T2.out.f0
      have g1 := T2.out.f1
      go_wp2
      refine bodyPost_ret (v := .tuple #[.agg #[.int .i64 x, .int .i64 y], .int .i64 0]) (by simp [results, Tryd.results28, go_sem, d0, d1]) rfl ?_
      exact ⟨by rw [resV_mk HN.out], (HB.out.setCell (by simp) _).setCell (by simp) _⟩
end Go.Proofs.YtjighmmfaedgbaaDoor.RatW
